package quorum

import (
	"strings"

	"quorum/api"
)

func (r *Node) last() int {
	return len(r.log)
}

func (r *Node) isFull() bool {
	return r.last() >= api.MaxLog
}

func (r *Node) termOf(number int) int {
	if number == 0 {
		return 0
	}
	return r.log[number-1].Term
}

// isAsGood holds the log that m tells of against the node's own.
func (r *Node) isAsGood(m api.Message) bool {
	own := r.termOf(r.last())
	return m.LogTerm > own || m.LogTerm == own && m.Index >= r.last()
}

// put makes the command anew, so that none that was handed in is kept.
func (r *Node) put(command string) {
	r.log = append(r.log, api.Entry{Term: r.term, Command: strings.Clone(command)})
}

func (r *Node) stepAppend(m api.Message) []api.Message {
	if m.Term < r.term {
		return r.send(api.Message{Kind: api.AppendReply, Term: r.term}, m.From)
	}
	if m.Term == r.term && r.role == api.Leader {
		return nil
	}
	r.follow(m.Term, m.From)
	r.elapsed = 0
	if m.Index > r.last() || r.termOf(m.Index) != m.LogTerm {
		ahead := min(r.last(), max(0, m.Index-1))
		return r.send(api.Message{Kind: api.AppendReply, Term: r.term, Index: ahead}, m.From)
	}
	end := m.Index + len(m.Entries)
	if end > api.MaxLog || !r.keepsCommitted(m) {
		return nil
	}
	r.take(m)
	r.commit = max(r.commit, min(m.Commit, end))
	return r.send(api.Message{Kind: api.AppendReply, Term: r.term, Index: end, Granted: true}, m.From)
}

func (r *Node) keepsCommitted(m api.Message) bool {
	for i, e := range m.Entries {
		if at := m.Index + i; at < r.commit && r.log[at] != e {
			return false
		}
	}
	return true
}

// take leaves the log as it is where it has all entries already: an old message must not cut off newer ones.
func (r *Node) take(m api.Message) {
	for i, e := range m.Entries {
		at := m.Index + i
		if at == r.last() || r.log[at].Term != e.Term {
			r.log = append(r.log[:at], copyEntries(m.Entries[i:])...)
			return
		}
	}
}
