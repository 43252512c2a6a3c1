package quorum_test

import (
	"slices"
	"strings"
	"testing"
	"unsafe"

	"quorum/api"
	"quorum/quorum"
)

// mustPropose asks that the command becomes the entry of that number, and gives what is sent.
func mustPropose(t *testing.T, r *quorum.Node, command string, number int) []api.Message {
	t.Helper()
	got, sent, e := r.Propose(command)
	if got != number || e != api.OK {
		t.Fatalf("Propose(%q) = %d, %d, want %d", command, got, e, number)
	}
	return sent
}

// checkRefused asks for the error alone, and that nothing has changed.
func checkRefused(t *testing.T, r *quorum.Node, command string, want api.Errno) {
	t.Helper()
	saved, status := r.Saved(), r.Status()
	if number, sent, e := r.Propose(command); number != 0 || sent != nil || e != want {
		t.Errorf("%+v: Propose(%q) = %d, %+v, %d, want %d", status, command, number, sent, e, want)
	}
	checkSaved(t, r, saved)
	checkStatus(t, r, status)
}

func checkCommitted(t *testing.T, r *quorum.Node, want ...string) {
	t.Helper()
	if got := r.Committed(); !slices.Equal(got, want) {
		t.Errorf("Committed() = %q, want %q", got, want)
	}
}

func isLeading(id, term, commit, last int) api.Status {
	return api.Status{Role: api.Leader, Term: term, Leads: id, Commit: commit, Last: last}
}

// wrongCommands hold bytes against the limit: 7 signs of 3 bytes are too many.
var wrongCommands = []string{"", strings.Repeat("a", 21), strings.Repeat("界", 7), strings.Repeat("\x00", 21), strings.Repeat("a", 1000)}

func TestP6ProposeAsksForACommandFirst(t *testing.T) {
	full := sameEntries(60, api.Entry{Term: 2, Command: "a"})
	for _, start := range makers {
		for _, log := range [][]api.Entry{nil, full} {
			r := start(t, 0, 3, api.Saved{Term: 2, Vote: -1, Log: log})
			for _, command := range wrongCommands {
				checkRefused(t, r, command, api.ErrCommand)
			}
		}
	}
}

func TestP6OnlyALeaderTakesAProposal(t *testing.T) {
	full := sameEntries(60, api.Entry{Term: 2, Command: "a"})
	for role, start := range makers[:api.Leader] {
		for _, log := range [][]api.Entry{nil, full} {
			r := start(t, 0, 3, api.Saved{Term: 2, Vote: -1, Log: log})
			if s := r.Status(); s.Role != role {
				t.Fatalf("%+v is not of the role %d", s, role)
			}
			checkRefused(t, r, "a", api.ErrRole)
		}
	}
	r := makeLeader(t, 0, 3, api.Saved{Vote: -1})
	r.Step(appendReply(1, 0, 2, 0, false))
	checkRefused(t, r, "a", api.ErrRole)
}

func TestP6AFullLogTakesNoProposal(t *testing.T) {
	checkRefused(t, makeLeader(t, 0, 3, api.Saved{Term: 2, Vote: -1, Log: sameEntries(60, api.Entry{Term: 2})}), "a", api.ErrFull)
	checkRefused(t, makeLeader(t, 0, 3, api.Saved{Term: 2, Vote: -1, Log: sameEntries(59, api.Entry{Term: 2})}), "a", api.ErrFull)
	r := makeLeader(t, 0, 3, api.Saved{Term: 2, Vote: -1, Log: sameEntries(58, api.Entry{Term: 2})})
	mustPropose(t, r, "a", 60)
	checkRefused(t, r, "a", api.ErrFull)
}

func TestP6ALogIsFilledByProposals(t *testing.T) {
	r := mustOpen(t, 0, 1)
	tickInSilence(t, r, 10)
	var want []string
	for number := 2; number <= 60; number++ {
		want = append(want, strings.Repeat("c", 1+number%20))
		checkSent(t, mustPropose(t, r, want[number-2], number))
		checkStatus(t, r, isLeading(0, 1, number, number))
	}
	checkRefused(t, r, "a", api.ErrFull)
	checkCommitted(t, r, want...)
}

func TestP6AProposalIsPutBehindAndSentToEachOther(t *testing.T) {
	for n := 2; n <= api.MaxNodes; n++ {
		for id := range n {
			log := logOf(1, 2)
			r := makeLeader(t, id, n, api.Saved{Term: 4, Vote: -1, Log: log})
			log = append(log, api.Entry{Term: 5}, api.Entry{Term: 5, Command: "x"}, api.Entry{Term: 5, Command: "x"})
			checkSent(t, mustPropose(t, r, "x", 4), toOthers(appendOf(id, 0, 5, 2, 2, 0, log[2:4]...), n)...)
			checkSent(t, mustPropose(t, r, "x", 5), toOthers(appendOf(id, 0, 5, 2, 2, 0, log[2:]...), n)...)
			checkSaved(t, r, api.Saved{Term: 5, Vote: id, Log: log})
			checkStatus(t, r, isLeading(id, 5, 0, 5))
		}
	}
}

func TestP6CommandsAtTheEdges(t *testing.T) {
	r := makeLeader(t, 0, 3, api.Saved{Vote: -1})
	commands := []string{"a", strings.Repeat("a", 20), strings.Repeat("界", 6) + "ab", "\x00", "\xff\xfe", " ", "\n"}
	for i, command := range commands {
		mustPropose(t, r, command, i+2)
		if log := r.Saved().Log; log[i+1] != (api.Entry{Term: 1, Command: command}) {
			t.Errorf("Propose(%q) puts %+v behind", command, log[i+1])
		}
	}
	r.Step(appendReply(1, 0, 1, 8, true))
	checkCommitted(t, r, commands...)
}

func TestP6AProposalTellsTheNewestCommit(t *testing.T) {
	r := makeLeader(t, 0, 3, api.Saved{Vote: -1})
	r.Step(appendReply(2, 0, 1, 1, true))
	a := api.Entry{Term: 1, Command: "a"}
	checkSent(t, mustPropose(t, r, "a", 2), appendOf(0, 1, 1, 0, 0, 1, api.Entry{Term: 1}, a), appendOf(0, 2, 1, 1, 1, 1, a))
	checkStatus(t, r, isLeading(0, 1, 1, 2))
}

func TestP6WhatIsTakenMovesTheCommitAndSendsWhatIsMissing(t *testing.T) {
	r := makeLeader(t, 0, 3, api.Saved{Vote: -1})
	for i, command := range []string{"b", "c", "d", "e", "f"} {
		mustPropose(t, r, command, i+2)
	}
	log := r.Saved().Log
	for _, c := range []struct {
		from, index, commit int
		want                []api.Message
	}{
		{1, 0, 0, nil}, // no more than its match
		{1, 1, 1, []api.Message{appendOf(0, 1, 1, 1, 1, 1, log[1:4]...)}},
		{1, 1, 1, nil}, // the same once more
		{1, 4, 4, []api.Message{appendOf(0, 1, 1, 4, 1, 4, log[4:]...)}},
		{1, 3, 4, nil}, // late
		{1, 7, 4, nil}, // beyond the last
		{1, api.MaxTerm, 4, nil},
		{2, 3, 4, []api.Message{appendOf(0, 2, 1, 3, 1, 4, log[3:]...)}}, // no majority has more
		{1, 5, 5, []api.Message{appendOf(0, 1, 1, 5, 1, 5, log[5:]...)}},
		{1, 6, 6, nil}, // all of it
		{2, 6, 6, nil},
	} {
		checkSent(t, r.Step(appendReply(c.from, 0, 1, c.index, true)), c.want...)
		checkStatus(t, r, isLeading(0, 1, c.commit, 6))
	}
	checkCommitted(t, r, "b", "c", "d", "e", "f")
	checkSent(t, r.Tick(), toOthers(appendOf(0, 0, 1, 6, 1, 6), 3)...)
}

func TestP6AReplyThatIsNoNewsLeavesNextAsItIs(t *testing.T) {
	r := makeLeader(t, 0, 3, api.Saved{Term: 1, Vote: -1, Log: logOf(1, 1, 1)})
	want := toOthers(appendOf(0, 0, 2, 3, 1, 0, api.Entry{Term: 2}), 3)
	for _, index := range []int{0, 5, 60, 61, api.MaxTerm} {
		checkSent(t, r.Step(appendReply(1, 0, 2, index, true)))
		checkSent(t, r.Tick(), want...)
	}
}

func TestP6ANextGoesBackByWhatIsTaken(t *testing.T) {
	r := makeLeader(t, 0, 3, api.Saved{Term: 1, Vote: -1, Log: logOf(1, 1, 1)})
	log := r.Saved().Log
	checkSent(t, r.Step(appendReply(1, 0, 2, 1, true)), appendOf(0, 1, 2, 1, 1, 0, log[1:]...))
	checkStatus(t, r, isLeading(0, 2, 0, 4))
}

func TestP6EntriesOfEarlierTermsAreCommittedByOneOfItsOwn(t *testing.T) {
	r := makeLeader(t, 0, 5, api.Saved{Term: 3, Vote: -1, Log: logOf(1, 2, 2)})
	for _, from := range []int{1, 2, 3, 4} {
		r.Step(appendReply(from, 0, 4, 3, true))
		checkStatus(t, r, isLeading(0, 4, 0, 4))
	}
	r.Step(appendReply(2, 0, 4, 4, true))
	checkStatus(t, r, isLeading(0, 4, 0, 4))
	r.Step(appendReply(4, 0, 4, 4, true))
	checkStatus(t, r, isLeading(0, 4, 4, 4))
	checkCommitted(t, r, "a", "b", "c")
}

func TestP6AFullLogOfEarlierTermsIsNotCommitted(t *testing.T) {
	r := makeLeader(t, 0, 3, api.Saved{Term: 2, Vote: -1, Log: sameEntries(60, api.Entry{Term: 2, Command: "a"})})
	r.Step(appendReply(1, 0, 3, 60, true))
	r.Step(appendReply(2, 0, 3, 60, true))
	checkStatus(t, r, isLeading(0, 3, 0, 60))
}

func TestP6ARefusalSendsWhatStandsFurtherAhead(t *testing.T) {
	log := append(logOf(1, 1, 2, 2, 2), api.Entry{Term: 3})
	for _, c := range []struct{ index, ahead int }{
		{0, 0}, {1, 1}, {3, 3}, {4, 4}, {5, 4}, {6, 4}, {60, 4}, {api.MaxTerm, 4},
	} {
		r := makeLeader(t, 0, 3, api.Saved{Term: 2, Vote: -1, Log: log[:5]})
		want := appendOf(0, 1, 3, c.ahead, 0, 0, log[c.ahead:min(c.ahead+3, 6)]...)
		if c.ahead > 0 {
			want.LogTerm = log[c.ahead-1].Term
		}
		checkSent(t, r.Step(appendReply(1, 0, 3, c.index, false)), want)
		checkStatus(t, r, isLeading(0, 3, 0, 6))
		checkSent(t, r.Tick(), want, appendOf(0, 2, 3, 5, 2, 0, log[5]))
	}
}

func TestP6RefusalsGoBackOneByOneDownToTheFirst(t *testing.T) {
	log := append(logOf(1, 1, 1), api.Entry{Term: 2})
	r := makeLeader(t, 0, 3, api.Saved{Term: 1, Vote: -1, Log: log[:3]})
	for _, ahead := range []int{2, 1, 0, 0, 0} {
		want := appendOf(0, 2, 2, ahead, min(1, ahead), 0, log[ahead:min(ahead+3, 4)]...)
		checkSent(t, r.Step(appendReply(2, 0, 2, 3, false)), want)
	}
}

func TestP6ARefusalDoesNotGoBackBehindWhatWasTaken(t *testing.T) {
	log := append(logOf(1, 1, 1), api.Entry{Term: 2})
	r := makeLeader(t, 0, 3, api.Saved{Term: 1, Vote: -1, Log: log[:3]})
	r.Step(appendReply(1, 0, 2, 2, true))
	for range 3 {
		checkSent(t, r.Step(appendReply(1, 0, 2, 0, false)), appendOf(0, 1, 2, 2, 1, 0, log[2:]...))
	}
	r.Step(appendReply(1, 0, 2, 4, true))
	checkSent(t, r.Step(appendReply(1, 0, 2, 0, false)), appendOf(0, 1, 2, 4, 2, 4))
	checkStatus(t, r, isLeading(0, 2, 4, 4))
}

func TestP6ALeaderTakesRepliesOfItsTermAlone(t *testing.T) {
	for _, granted := range []bool{true, false} {
		r := makeLeader(t, 0, 3, api.Saved{Term: 4, Vote: -1, Log: logOf(1)})
		want := toOthers(appendOf(0, 0, 5, 1, 1, 0, api.Entry{Term: 5}), 3)
		for _, term := range []int{1, 4} {
			checkUnmoved(t, r, func() []api.Message { return r.Step(appendReply(1, 0, term, 2*term%4, granted)) })
			checkSent(t, r.Tick(), want...)
		}
	}
}

func TestP6OnlyALeaderTakesAnAppendReply(t *testing.T) {
	for _, start := range makers[:api.Leader] {
		r := start(t, 0, 3, api.Saved{Term: 4, Vote: -1, Log: logOf(1)})
		for _, granted := range []bool{true, false} {
			for term := 1; term <= r.Status().Term; term++ {
				checkUnmoved(t, r, func() []api.Message { return r.Step(appendReply(1, 0, term, 1, granted)) })
			}
		}
	}
}

func TestP6WhatOthersTookInAnEarlierTermIsForgotten(t *testing.T) {
	r := makeLeader(t, 0, 3, api.Saved{Vote: -1})
	mustPropose(t, r, "a", 2)
	r.Step(appendReply(1, 0, 1, 2, true))
	r.Step(appendReply(1, 0, 2, 0, false))
	wake(r, 10)
	r.Step(askReply(2, 0, 3, true))
	a := api.Entry{Term: 1, Command: "a"}
	checkSent(t, r.Step(voteReply(2, 0, 3, true)), toOthers(appendOf(0, 0, 3, 2, 1, 2, api.Entry{Term: 3}), 3)...)
	checkSent(t, r.Step(appendReply(1, 0, 3, 0, false)), appendOf(0, 1, 3, 0, 0, 2, api.Entry{Term: 1}, a, api.Entry{Term: 3}))
}

func TestP6AFollowerThatIsFarBehindIsBroughtUp(t *testing.T) {
	for _, behind := range [][]api.Entry{nil, logOf(1), logOf(1, 1, 1, 1, 1, 1, 1, 1), logOf(1, 1, 2, 2, 2), logOf(1, 1, 2, 2, 2, 2, 2, 2, 2, 2, 2, 2, 2)} {
		leader := makeLeader(t, 0, 2, api.Saved{Term: 4, Vote: -1, Log: logOf(1, 1, 1, 3, 3, 3, 3, 3, 3, 4)})
		follower := mustRestart(t, 1, 2, api.Saved{Term: 4, Vote: -1, Log: behind})
		nodes := []*quorum.Node{leader, follower}
		for range 2 {
			for mail := leader.Tick(); len(mail) > 0; mail = mail[1:] {
				mail = append(mail, nodes[mail[0].To].Step(mail[0])...)
			}
		}
		checkSaved(t, follower, api.Saved{Term: 5, Vote: -1, Log: leader.Saved().Log})
		checkStatus(t, follower, api.Status{Role: api.Follower, Term: 5, Leads: 0, Commit: 11, Last: 11})
		checkStatus(t, leader, isLeading(0, 5, 11, 11))
	}
}

func TestP2ProposeKeepsNoCommandHandedIn(t *testing.T) {
	command := strings.Repeat("a", 20)
	r := makeLeader(t, 0, 3, api.Saved{Vote: -1})
	sent := mustPropose(t, r, command, 2)
	for _, kept := range []string{r.Saved().Log[1].Command, sent[0].Entries[1].Command} {
		if unsafe.StringData(kept) == unsafe.StringData(command) {
			t.Error("the bytes of the command that was handed in are kept or answered")
		}
	}
}

func TestP2WhatProposeAndRepliesSendIsNewMemory(t *testing.T) {
	r := makeLeader(t, 0, 7, api.Saved{Vote: -1})
	log := []api.Entry{{Term: 1}, {Term: 1, Command: "a"}}
	want := toOthers(appendOf(0, 0, 1, 0, 0, 0, log...), 7)
	sent := mustPropose(t, r, "a", 2)
	for i, m := range sent {
		spoilRoom(m.Entries, api.Entry{Term: 9, Command: "z"})
		checkSent(t, sent[i+1:], want[i+1:]...)
	}
	spoilRoom(sent, api.Message{Kind: 9})
	for range 2 {
		again := r.Step(appendReply(3, 0, 1, 0, false))
		checkSent(t, again, want[2])
		spoilRoom(again[0].Entries, api.Entry{Term: 9, Command: "z"})
		spoilRoom(again, api.Message{Kind: 9})
	}
	further := r.Step(appendReply(3, 0, 1, 1, true))
	checkSent(t, further, appendOf(0, 3, 1, 1, 1, 0, log[1]))
	spoilRoom(further[0].Entries, api.Entry{Term: 9, Command: "z"})
	checkSaved(t, r, api.Saved{Term: 1, Vote: 0, Log: log})
}
