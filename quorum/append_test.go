package quorum_test

import (
	"slices"
	"strings"
	"testing"
	"unsafe"

	"quorum/api"
)

func TestP6AnAppendOfAnEarlierTermIsRefused(t *testing.T) {
	for _, start := range makers {
		r := start(t, 0, 3, api.Saved{Term: 5, Vote: 2, Log: logOf(4)})
		saved, status := r.Saved(), r.Status()
		checkSent(t, r.Step(appendOf(1, 0, 4, 1, 4, 1, api.Entry{Term: 4})), appendReply(0, 1, status.Term, 0, false))
		checkSaved(t, r, saved)
		checkStatus(t, r, status)
	}
}

func TestP6AnAppendOfAnEarlierTermDoesNotBeginThePatienceAnew(t *testing.T) {
	r := mustRestart(t, 0, 3, api.Saved{Term: 5, Vote: 2})
	tickInSilence(t, r, 9)
	r.Step(appendOf(1, 0, 4, 0, 0, 0))
	checkSent(t, r.Tick(), ask(0, 1, 6, 0, 0), ask(0, 2, 6, 0, 0))
}

func TestP6ALeaderIsNotMovedByAnAppendOfItsTerm(t *testing.T) {
	r := makeLeader(t, 0, 3, api.Saved{Term: 5, Vote: 2})
	checkUnmoved(t, r, func() []api.Message { return r.Step(appendOf(1, 0, 6, 0, 0, 1, api.Entry{Term: 5})) })
}

func TestP6AnAppendIsFollowedInEachRole(t *testing.T) {
	for role, start := range makers {
		for _, ahead := range []int{0, 1, 7} {
			r := start(t, 0, 3, api.Saved{Term: 5, Vote: 2})
			before := r.Status()
			if role == api.Leader && ahead == 0 {
				continue
			}
			voted := r.Saved().Vote
			if ahead > 0 {
				voted = -1
			}
			term := before.Term + ahead
			checkSent(t, r.Step(appendOf(1, 0, term, 0, 0, 0)), appendReply(0, 1, term, 0, true))
			checkStatus(t, r, api.Status{Role: api.Follower, Term: term, Leads: 1, Last: before.Last})
			if s := r.Saved(); s.Vote != voted {
				t.Errorf("role %d: the vote is %d, want %d", role, s.Vote, voted)
			}
		}
	}
}

func TestP6AnAppendBeginsThePatienceAnew(t *testing.T) {
	for _, m := range []api.Message{
		appendOf(1, 0, 5, 1, 4, 0),
		appendOf(1, 0, 6, 1, 4, 0),
		appendOf(1, 0, 5, 9, 4, 0),
		appendOf(1, 0, 5, 1, 3, 0),
	} {
		r := mustRestart(t, 0, 3, api.Saved{Term: 5, Vote: 2, Log: logOf(4)})
		tickInSilence(t, r, 9)
		r.Step(m)
		if ticks, _ := wake(r, 20); ticks != 10 {
			t.Errorf("behind %+v it asks at tick %d", m, ticks)
		}
	}
}

func TestP6AnAppendBehindWhatTheNodeHasNotIsRefused(t *testing.T) {
	for _, c := range []struct{ index, logTerm, want int }{
		{5, 4, 2}, {3, 4, 2}, {4, 4, 2}, {api.MaxTerm, 4, 2}, {3, 0, 2}, // no such entry
		{2, 3, 1}, {2, 5, 1}, {2, 0, 1}, {1, 4, 0}, {1, 0, 0}, // of another term
		{0, 1, 0}, {0, 4, 0}, // the entry 0 is of the term 0
	} {
		saved := api.Saved{Term: 5, Vote: 2, Log: logOf(2, 4)}
		r := mustRestart(t, 0, 3, saved)
		checkSent(t, r.Step(appendOf(1, 0, 5, c.index, c.logTerm, 2, api.Entry{Term: 5})), appendReply(0, 1, 5, c.want, false))
		checkSaved(t, r, saved)
		checkStatus(t, r, api.Status{Role: api.Follower, Term: 5, Leads: 1, Last: 2})
	}
	r := mustOpen(t, 0, 3)
	checkSent(t, r.Step(appendOf(1, 0, 5, 1, 4, 2)), appendReply(0, 1, 5, 0, false))
}

func TestP6EntriesArePutBehind(t *testing.T) {
	other := func(term int) api.Entry { return api.Entry{Term: term, Command: "z"} }
	for _, c := range []struct {
		index, logTerm int
		entries, want  []api.Entry
	}{
		{3, 3, nil, logOf(1, 2, 3)},
		{1, 1, nil, logOf(1, 2, 3)},
		{0, 0, nil, logOf(1, 2, 3)},
		{3, 3, []api.Entry{other(3), other(5)}, append(logOf(1, 2, 3), other(3), other(5))},
		{0, 0, logOf(1, 2), logOf(1, 2, 3)},
		{1, 1, logOf(1, 2, 3)[1:], logOf(1, 2, 3)},
		{1, 1, append(logOf(1, 2, 3)[1:], other(5)), append(logOf(1, 2, 3), other(5))},
		{1, 1, []api.Entry{other(3)}, append(logOf(1), other(3))},
		{1, 1, []api.Entry{other(2), other(4)}, append(logOf(1, 2), other(4))},
		{0, 0, []api.Entry{other(5), other(5), other(5)}, []api.Entry{other(5), other(5), other(5)}},
		{0, 0, []api.Entry{other(5)}, []api.Entry{other(5)}},
		// An entry of the same term is one that the node has, whatever its command.
		{2, 2, []api.Entry{other(3)}, logOf(1, 2, 3)},
	} {
		r := mustRestart(t, 0, 3, api.Saved{Term: 5, Vote: 2, Log: logOf(1, 2, 3)})
		checkSent(t, r.Step(appendOf(1, 0, 5, c.index, c.logTerm, 0, c.entries...)), appendReply(0, 1, 5, c.index+len(c.entries), true))
		checkSaved(t, r, api.Saved{Term: 5, Vote: 2, Log: c.want})
	}
}

func TestP6TheCommitIsTheLesserAndDoesNotFall(t *testing.T) {
	r := mustRestart(t, 0, 3, api.Saved{Term: 5, Vote: 2, Log: logOf(1, 2, 3)})
	for _, c := range []struct{ index, logTerm, commit, want int }{
		{0, 0, 3, 0}, {1, 1, 3, 1}, {2, 2, 1, 1}, {3, 3, 2, 2}, {1, 1, 3, 2}, {3, 3, 1, 2}, {3, 3, api.MaxTerm, 3}, {0, 0, 0, 3},
	} {
		checkSent(t, r.Step(appendOf(1, 0, 5, c.index, c.logTerm, c.commit)), appendReply(0, 1, 5, c.index, true))
		checkStatus(t, r, api.Status{Role: api.Follower, Term: 5, Leads: 1, Commit: c.want, Last: 3})
	}
	if l := r.Committed(); !slices.Equal(l, []string{"a", "b", "c"}) {
		t.Errorf("Committed() = %q", l)
	}
	checkSent(t, r.Step(appendOf(1, 0, 5, 3, 3, 5, logOf(4, 5)...)), appendReply(0, 1, 5, 5, true))
	checkStatus(t, r, api.Status{Role: api.Follower, Term: 5, Leads: 1, Commit: 5, Last: 5})
}

func TestP6ARefusalCommitsNothing(t *testing.T) {
	r := mustRestart(t, 0, 3, api.Saved{Term: 5, Vote: 2, Log: logOf(1, 2, 3)})
	r.Step(appendOf(1, 0, 5, 3, 2, 3))
	checkStatus(t, r, api.Status{Role: api.Follower, Term: 5, Leads: 1, Last: 3})
}

func TestP6WhatIsCommittedStays(t *testing.T) {
	log := logOf(1, 2, 3)
	for _, c := range []struct {
		index, logTerm int
		entries        []api.Entry
	}{
		{1, 1, []api.Entry{{Term: 3, Command: "b"}}},
		{1, 1, []api.Entry{{Term: 2, Command: "z"}}},
		{1, 1, []api.Entry{{Term: 2}}},
		{0, 0, []api.Entry{{Term: 2, Command: "a"}, {Term: 2, Command: "b"}}},
		{0, 0, []api.Entry{log[0], {Term: 2, Command: "z"}, {Term: 5}}},
		{0, 0, []api.Entry{log[0], {Term: 5}}},
	} {
		r := mustRestart(t, 0, 3, api.Saved{Term: 4, Vote: 2, Log: log})
		r.Step(appendOf(1, 0, 4, 2, 2, 2))
		checkSent(t, r.Step(appendOf(2, 0, 5, c.index, c.logTerm, 3, c.entries...)))
		checkSaved(t, r, api.Saved{Term: 5, Vote: -1, Log: log})
		checkStatus(t, r, api.Status{Role: api.Follower, Term: 5, Leads: 2, Commit: 2, Last: 3})
	}
	r := mustRestart(t, 0, 3, api.Saved{Term: 4, Vote: 2, Log: log})
	r.Step(appendOf(1, 0, 4, 2, 2, 2))
	checkSent(t, r.Step(appendOf(2, 0, 5, 1, 1, 2, log[1], api.Entry{Term: 5})), appendReply(0, 2, 5, 3, true))
	checkSaved(t, r, api.Saved{Term: 5, Vote: -1, Log: append(logOf(1, 2), api.Entry{Term: 5})})
}

func TestP6ALogHasAnEnd(t *testing.T) {
	for _, c := range []struct{ have, index, count int }{
		{57, 57, 3}, {58, 58, 2}, {59, 59, 1}, {60, 60, 0}, {60, 57, 3}, {58, 57, 3},
		{58, 58, 3}, {59, 59, 2}, {60, 60, 1}, {60, 58, 3}, {60, 59, 2},
	} {
		log := sameEntries(c.have, api.Entry{Term: 2, Command: "a"})
		r := mustRestart(t, 0, 3, api.Saved{Term: 2, Vote: -1, Log: log})
		l := r.Step(appendOf(1, 0, 3, c.index, 2, 60, sameEntries(c.count, api.Entry{Term: 3})...))
		end := c.index + c.count
		if end > 60 {
			checkSent(t, l)
			checkSaved(t, r, api.Saved{Term: 3, Vote: -1, Log: log})
			checkStatus(t, r, api.Status{Role: api.Follower, Term: 3, Leads: 1, Last: c.have})
			continue
		}
		checkSent(t, l, appendReply(0, 1, 3, end, true))
		checkSaved(t, r, api.Saved{Term: 3, Vote: -1, Log: append(log[:c.index:c.index], sameEntries(c.count, api.Entry{Term: 3})...)})
		checkStatus(t, r, api.Status{Role: api.Follower, Term: 3, Leads: 1, Commit: end, Last: end})
	}
}

func TestP6ToLeadPutsAnEmptyEntryBehind(t *testing.T) {
	for _, c := range []struct{ before, after int }{{0, 1}, {1, 2}, {58, 59}, {59, 60}, {60, 60}} {
		log := sameEntries(c.before, api.Entry{Term: 2, Command: "a"})
		r := makeCandidate(t, 1, 3, api.Saved{Term: 2, Vote: -1, Log: log})
		want := appendOf(1, 0, 3, c.before, 2, 0)
		if c.before == 0 {
			want.LogTerm = 0
		}
		if c.after > c.before {
			log = append(log, api.Entry{Term: 3})
			want.Entries = log[c.before:]
		}
		checkSent(t, r.Step(voteReply(0, 1, 3, true)), toOthers(want, 3)...)
		checkStatus(t, r, api.Status{Role: api.Leader, Term: 3, Leads: 1, Last: c.after})
		checkSaved(t, r, api.Saved{Term: 3, Vote: 1, Log: log})
		checkSent(t, r.Tick(), toOthers(want, 3)...)
	}
}

func TestP6ALeaderKeepsItsCommitAndTellsIt(t *testing.T) {
	r := mustRestart(t, 0, 3, api.Saved{Term: 2, Vote: -1, Log: logOf(1, 2)})
	r.Step(appendOf(1, 0, 2, 2, 2, 2))
	wake(r, 10)
	r.Step(askReply(1, 0, 3, true))
	checkSent(t, r.Step(voteReply(1, 0, 3, true)), toOthers(appendOf(0, 0, 3, 2, 2, 2, api.Entry{Term: 3}), 3)...)
	checkStatus(t, r, api.Status{Role: api.Leader, Term: 3, Leads: 0, Commit: 2, Last: 3})
}

func TestP6OneAloneCommitsWhatItHasWithAnEntryOfItsTerm(t *testing.T) {
	r := mustRestart(t, 0, 1, api.Saved{Term: 4, Vote: -1, Log: logOf(1, 4)})
	tickInSilence(t, r, 10)
	checkStatus(t, r, api.Status{Role: api.Leader, Term: 5, Leads: 0, Commit: 3, Last: 3})
	if l := r.Committed(); !slices.Equal(l, []string{"a", "b"}) {
		t.Errorf("Committed() = %q", l)
	}
	full := mustRestart(t, 0, 1, api.Saved{Term: 4, Vote: -1, Log: sameEntries(60, api.Entry{Term: 4, Command: "a"})})
	tickInSilence(t, full, 10)
	checkStatus(t, full, api.Status{Role: api.Leader, Term: 5, Leads: 0, Commit: 0, Last: 60})
}

func TestP6AnAppendReplyOfAGreaterTermIsFollowed(t *testing.T) {
	for _, start := range makers {
		for _, granted := range []bool{true, false} {
			r := start(t, 0, 3, api.Saved{Term: 5, Vote: 2})
			last := r.Status().Last
			checkSent(t, r.Step(appendReply(1, 0, 9, 0, granted)))
			checkStatus(t, r, api.Status{Role: api.Follower, Term: 9, Leads: -1, Last: last})
			if s := r.Saved(); s.Vote != -1 {
				t.Errorf("the vote is %d", s.Vote)
			}
		}
	}
}

func TestP2StepNeitherWritesNorKeepsTheEntries(t *testing.T) {
	room := sameEntries(5, api.Entry{Term: 1, Command: "spare"})
	room[0].Command, room[1].Command = "a", "b"
	before := slices.Clone(room)
	r := mustOpen(t, 0, 3)
	r.Step(appendOf(1, 0, 1, 0, 0, 0, room[:2]...))
	r.Step(appendOf(1, 0, 2, 1, 1, 0, api.Entry{Term: 2, Command: "c"}, api.Entry{Term: 2, Command: "d"}, api.Entry{Term: 2}))
	if !slices.Equal(room, before) {
		t.Errorf("the list handed in is now %+v", room)
	}
	spoilRoom(room, api.Entry{Term: 9, Command: "z"})
	checkSaved(t, r, api.Saved{Term: 2, Vote: -1, Log: []api.Entry{{Term: 1, Command: "a"}, {Term: 2, Command: "c"}, {Term: 2, Command: "d"}, {Term: 2}}})
}

func TestP2StepKeepsNoCommandHandedIn(t *testing.T) {
	command := strings.Repeat("a", 20)
	r := mustOpen(t, 0, 3)
	r.Step(appendOf(1, 0, 1, 0, 0, 0, api.Entry{Term: 1, Command: command}))
	if unsafe.StringData(r.Saved().Log[0].Command) == unsafe.StringData(command) {
		t.Error("the bytes of the command that was handed in are kept")
	}
}

func TestP2MessagesAreNewMemory(t *testing.T) {
	r := makeLeader(t, 0, 7, api.Saved{Term: 1, Vote: -1, Log: logOf(1)})
	saved := r.Saved()
	want := toOthers(appendOf(0, 0, 2, 1, 1, 0, api.Entry{Term: 2}), 7)
	one, other := r.Tick(), r.Tick()
	for i, m := range one {
		spoilRoom(m.Entries, api.Entry{Term: 9, Command: "z"})
		checkSent(t, one[i+1:], want[i+1:]...)
	}
	spoilRoom(one, api.Message{Kind: 9})
	checkSent(t, other, want...)
	checkSent(t, r.Tick(), want...)
	checkSaved(t, r, saved)
}
