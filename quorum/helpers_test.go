package quorum_test

import (
	"reflect"
	"slices"
	"testing"

	"quorum/api"
	"quorum/quorum"
)

func mustOpen(t *testing.T, id, n int) *quorum.Node {
	t.Helper()
	return mustRestart(t, id, n, api.Saved{Vote: -1})
}

func ask(from, to, term, index, logTerm int) api.Message {
	return api.Message{Kind: api.Ask, From: from, To: to, Term: term, Index: index, LogTerm: logTerm}
}

func vote(from, to, term, index, logTerm int) api.Message {
	return api.Message{Kind: api.Vote, From: from, To: to, Term: term, Index: index, LogTerm: logTerm}
}

func askReply(from, to, term int, granted bool) api.Message {
	return api.Message{Kind: api.AskReply, From: from, To: to, Term: term, Granted: granted}
}

func voteReply(from, to, term int, granted bool) api.Message {
	return api.Message{Kind: api.VoteReply, From: from, To: to, Term: term, Granted: granted}
}

func appendOf(from, to, term, index, logTerm, commit int, entries ...api.Entry) api.Message {
	return api.Message{Kind: api.Append, From: from, To: to, Term: term, Index: index, LogTerm: logTerm, Commit: commit, Entries: entries}
}

func appendReply(from, to, term, index int, granted bool) api.Message {
	return api.Message{Kind: api.AppendReply, From: from, To: to, Term: term, Index: index, Granted: granted}
}

// toOthers has one message for each node but From, by rising numbers.
func toOthers(m api.Message, n int) []api.Message {
	var l []api.Message
	for to := range n {
		if to != m.From {
			m.To = to
			l = append(l, m)
		}
	}
	return l
}

// plain lets a list of nothing be the same as nil.
func plain(l []api.Message) []api.Message {
	own := append([]api.Message{}, l...)
	for i := range own {
		if len(own[i].Entries) == 0 {
			own[i].Entries = nil
		}
	}
	return own
}

func checkSent(t *testing.T, got []api.Message, want ...api.Message) {
	t.Helper()
	if !reflect.DeepEqual(plain(got), plain(want)) {
		t.Errorf("sent %+v, want %+v", got, want)
	}
}

// checkUnmoved asks that the call sends nothing and that nothing which is told has changed.
func checkUnmoved(t *testing.T, r *quorum.Node, call func() []api.Message) {
	t.Helper()
	saved, status := r.Saved(), r.Status()
	checkSent(t, call())
	checkSaved(t, r, saved)
	checkStatus(t, r, status)
}

// tickInSilence ticks so many times, and asks that nothing is sent.
func tickInSilence(t *testing.T, r *quorum.Node, ticks int) {
	t.Helper()
	for range ticks {
		checkSent(t, r.Tick())
	}
}

// wake ticks until the node sends or the count is over, and tells how many ticks that took.
func wake(r *quorum.Node, most int) (int, []api.Message) {
	for i := 1; i <= most; i++ {
		if l := r.Tick(); len(l) > 0 {
			return i, l
		}
	}
	return most + 1, nil
}

func makeAsking(t *testing.T, id, n int, saved api.Saved) *quorum.Node {
	t.Helper()
	r := mustRestart(t, id, n, saved)
	tickInSilence(t, r, 9)
	r.Tick()
	if s := r.Status(); s.Role != api.Asking {
		t.Fatalf("behind ten ticks: %+v", s)
	}
	return r
}

// grantAll tells a node that each other grants what it asked for, and asks for the role that this brings.
func grantAll(t *testing.T, r *quorum.Node, id, n int, reply api.Message, role int) *quorum.Node {
	t.Helper()
	for _, m := range toOthers(api.Message{From: id}, n) {
		reply.From, reply.To = m.To, id
		r.Step(reply)
	}
	if s := r.Status(); s.Role != role || s.Term != reply.Term {
		t.Fatalf("behind all grants: %+v", s)
	}
	return r
}

func makeCandidate(t *testing.T, id, n int, saved api.Saved) *quorum.Node {
	t.Helper()
	return grantAll(t, makeAsking(t, id, n, saved), id, n, askReply(0, 0, saved.Term+1, true), api.Candidate)
}

func makeLeader(t *testing.T, id, n int, saved api.Saved) *quorum.Node {
	t.Helper()
	return grantAll(t, makeCandidate(t, id, n, saved), id, n, voteReply(0, 0, saved.Term+1, true), api.Leader)
}

// makers are by the roles that they make. A candidate and a leader are a term further than what they saved.
var makers = []func(*testing.T, int, int, api.Saved) *quorum.Node{mustRestart, makeAsking, makeCandidate, makeLeader}

func logOf(terms ...int) []api.Entry {
	var l []api.Entry
	for i, term := range terms {
		l = append(l, api.Entry{Term: term, Command: string(rune('a' + i%26))})
	}
	return l
}

func spoilRoom[T any](l []T, with T) {
	for i := range l[:cap(l)] {
		l[:cap(l)][i] = with
	}
}

func reversed[T any](l []T) []T {
	own := slices.Clone(l)
	slices.Reverse(own)
	return own
}
