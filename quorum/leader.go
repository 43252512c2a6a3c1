package quorum

import "quorum/api"

func (r *Node) lead() []api.Message {
	r.role = api.Leader
	r.leads = r.id
	r.elapsed = 0
	r.heard = nodeSet{}
	for id := range r.n {
		r.next[id] = r.last() + 1
		r.match[id] = 0
	}
	// What earlier terms left behind is committed only below an entry of this one.
	if !r.isFull() {
		r.put("")
	}
	return r.spread()
}

// spread counts ahead of sending, so that the others are told of the newest commit.
func (r *Node) spread() []api.Message {
	r.match[r.id] = r.last()
	r.count()
	return r.sendAppends(r.others()...)
}

// count stops at the first entry of an earlier term, as terms do not fall: below it stand no more of its own.
func (r *Node) count() {
search:
	for number := r.last(); number > r.commit && r.termOf(number) == r.term; number-- {
		have := 0
		for id := range r.n {
			if r.match[id] < number {
				continue
			}
			have++
			if r.isMajority(have) {
				r.commit = number
				break search
			}
		}
	}
}

func (r *Node) stepAppendReply(m api.Message) []api.Message {
	if m.Term > r.term {
		r.follow(m.Term, none)
	}
	if r.role != api.Leader || m.Term != r.term {
		return nil
	}
	r.heard = r.heard.with(m.From)
	if m.Granted {
		return r.goOn(m.From, m.Index)
	}
	return r.goBack(m.From, m.Index)
}

// goOn leaves an old reply alone: a node that has taken more since then has lost none of it.
func (r *Node) goOn(id, taken int) []api.Message {
	if taken > r.last() || taken <= r.match[id] {
		return nil
	}
	r.match[id] = taken
	r.next[id] = taken + 1
	r.count()
	if r.next[id] > r.last() {
		return nil
	}
	return r.sendAppends(id)
}

// goBack stops behind what the node has taken: an old refusal must not have it sent once more.
func (r *Node) goBack(id, ahead int) []api.Message {
	r.next[id] = max(min(r.next[id]-1, ahead+1), r.match[id]+1)
	return r.sendAppends(id)
}
