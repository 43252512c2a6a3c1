package quorum

import "quorum/api"

// others lists them by rising numbers, the order in which they are sent to.
func (r *Node) others() []int {
	var l []int
	for id := range r.n {
		if id != r.id {
			l = append(l, id)
		}
	}
	return l
}

// send is for messages without Entries: those with some need a list of its own for each node.
func (r *Node) send(m api.Message, to ...int) []api.Message {
	m.From = r.id
	sent := make([]api.Message, len(to))
	for i, id := range to {
		m.To = id
		sent[i] = m
	}
	return sent
}

func (r *Node) sendAppends(to ...int) []api.Message {
	var sent []api.Message
	for _, id := range to {
		sent = append(sent, r.appendTo(id))
	}
	return sent
}

func (r *Node) appendTo(id int) api.Message {
	ahead := r.next[id] - 1
	end := min(ahead+api.MaxSend, r.last())
	return api.Message{
		Kind:    api.Append,
		From:    r.id,
		To:      id,
		Term:    r.term,
		Index:   ahead,
		LogTerm: r.termOf(ahead),
		Commit:  r.commit,
		Entries: copyEntries(r.log[ahead:end]),
	}
}
