package quorum_test

import (
	"testing"

	"quorum/api"
	"quorum/quorum"
)

func TestP5ANodeAsksWhenItsPatienceIsAtItsEnd(t *testing.T) {
	for patience := 1; patience <= api.MaxTicks; patience++ {
		r := mustOpen(t, 0, 3)
		r.Patience(patience)
		for range 3 {
			ticks, l := wake(r, 100)
			if ticks != patience {
				t.Errorf("patience %d: it asks at tick %d", patience, ticks)
			}
			checkSent(t, l, ask(0, 1, 1, 0, 0), ask(0, 2, 1, 0, 0))
			checkStatus(t, r, api.Status{Role: api.Asking, Leads: -1})
			checkSaved(t, r, api.Saved{Vote: -1})
		}
	}
}

func TestP5TheFirstPatienceIsTen(t *testing.T) {
	r := mustOpen(t, 2, 3)
	tickInSilence(t, r, 9)
	checkSent(t, r.Tick(), ask(2, 0, 1, 0, 0), ask(2, 1, 1, 0, 0))
}

func TestP5APatienceThatChangesHoldsForTheTicksThatWere(t *testing.T) {
	r := mustOpen(t, 0, 2)
	tickInSilence(t, r, 9)
	r.Patience(15)
	tickInSilence(t, r, 5)
	checkSent(t, r.Tick(), ask(0, 1, 1, 0, 0))
	tickInSilence(t, r, 9)
	r.Patience(3)
	checkSent(t, r.Tick(), ask(0, 1, 1, 0, 0))
	tickInSilence(t, r, 2)
	checkSent(t, r.Tick(), ask(0, 1, 1, 0, 0))
}

func TestP5AsksGoToEachOtherByRisingNumbers(t *testing.T) {
	saved := api.Saved{Term: 6, Vote: 0, Log: logOf(1, 4, 4)}
	for n := 2; n <= api.MaxNodes; n++ {
		for id := range n {
			r := mustRestart(t, id, n, saved)
			_, l := wake(r, 10)
			checkSent(t, l, toOthers(ask(id, 0, 7, 3, 4), n)...)
			checkStatus(t, r, api.Status{Role: api.Asking, Term: 6, Leads: -1, Last: 3})
			checkSaved(t, r, saved)
		}
	}
}

func TestP5NobodyAsksAtTheGreatestTerm(t *testing.T) {
	for _, n := range []int{1, 2, 3} {
		r := mustRestart(t, 0, n, api.Saved{Term: api.MaxTerm, Vote: -1})
		for range 100 {
			checkUnmoved(t, r, r.Tick)
		}
	}
}

func TestP5TheTermBelowTheGreatestIsTheLastToAskIn(t *testing.T) {
	r := makeCandidate(t, 0, 3, api.Saved{Term: api.MaxTerm - 1, Vote: -1})
	checkStatus(t, r, api.Status{Role: api.Candidate, Term: api.MaxTerm, Leads: -1})
	for range 50 {
		checkUnmoved(t, r, r.Tick)
	}
	alone := mustRestart(t, 0, 1, api.Saved{Term: api.MaxTerm - 1, Vote: -1})
	tickInSilence(t, alone, 30)
	checkStatus(t, alone, api.Status{Role: api.Leader, Term: api.MaxTerm, Leads: 0, Commit: 1, Last: 1})
}

func TestP5AnAskingNodeForgetsItsLeader(t *testing.T) {
	r := mustOpen(t, 0, 3)
	r.Step(appendOf(1, 0, 4, 0, 0, 0))
	checkStatus(t, r, api.Status{Role: api.Follower, Term: 4, Leads: 1})
	tickInSilence(t, r, 9)
	checkStatus(t, r, api.Status{Role: api.Follower, Term: 4, Leads: 1})
	checkSent(t, r.Tick(), ask(0, 1, 5, 0, 0), ask(0, 2, 5, 0, 0))
	checkStatus(t, r, api.Status{Role: api.Asking, Term: 4, Leads: -1})
}

func TestP5OneAloneStandsAndLeads(t *testing.T) {
	r := mustOpen(t, 0, 1)
	r.Patience(1)
	checkSent(t, r.Tick())
	checkStatus(t, r, api.Status{Role: api.Leader, Term: 1, Leads: 0, Commit: 1, Last: 1})
	checkSaved(t, r, api.Saved{Term: 1, Vote: 0, Log: []api.Entry{{Term: 1}}})
	for range 100 {
		checkUnmoved(t, r, r.Tick)
	}
}

func TestP5MoreThanHalfAreAMajority(t *testing.T) {
	for n := 2; n <= api.MaxNodes; n++ {
		for id := range n {
			r := makeAsking(t, id, n, api.Saved{Term: 2, Vote: -1, Log: logOf(2)})
			others := toOthers(api.Message{From: id}, n)
			need := n / 2
			for i, m := range others {
				l := r.Step(askReply(m.To, id, 3, true))
				if i+1 == need {
					checkSent(t, l, toOthers(vote(id, 0, 3, 1, 2), n)...)
					checkStatus(t, r, api.Status{Role: api.Candidate, Term: 3, Leads: -1, Last: 1})
					checkSaved(t, r, api.Saved{Term: 3, Vote: id, Log: logOf(2)})
				} else {
					checkSent(t, l)
				}
			}
			for i, m := range reversed(others) {
				l := r.Step(voteReply(m.To, id, 3, true))
				if i+1 == need {
					checkSent(t, l, toOthers(appendOf(id, 0, 3, 1, 2, 0, api.Entry{Term: 3}), n)...)
					checkStatus(t, r, api.Status{Role: api.Leader, Term: 3, Leads: id, Last: 2})
				} else {
					checkSent(t, l)
				}
			}
		}
	}
}

func TestP5TheSameGrantTwiceIsOne(t *testing.T) {
	r := makeAsking(t, 1, 5, api.Saved{Vote: -1})
	for range 5 {
		checkSent(t, r.Step(askReply(4, 1, 1, true)))
	}
	checkSent(t, r.Step(askReply(0, 1, 1, true)), toOthers(vote(1, 0, 1, 0, 0), 5)...)
	for range 5 {
		checkSent(t, r.Step(voteReply(4, 1, 1, true)))
	}
	checkSent(t, r.Step(voteReply(0, 1, 1, true)), toOthers(appendOf(1, 0, 1, 0, 0, 0, api.Entry{Term: 1}), 5)...)
}

func TestP5GrantsAreForgottenWhenItAsksAnew(t *testing.T) {
	r := makeAsking(t, 0, 5, api.Saved{Vote: -1})
	r.Step(askReply(1, 0, 1, true))
	tickInSilence(t, r, 9)
	checkSent(t, r.Tick(), toOthers(ask(0, 0, 1, 0, 0), 5)...)
	checkSent(t, r.Step(askReply(2, 0, 1, true)))
	checkSent(t, r.Step(askReply(1, 0, 1, true)), toOthers(vote(0, 0, 1, 0, 0), 5)...)
}

func TestP5ACandidateNeedsVotesOfItsOwn(t *testing.T) {
	r := makeAsking(t, 0, 5, api.Saved{Vote: -1})
	r.Step(askReply(1, 0, 1, true))
	r.Step(askReply(2, 0, 1, true))
	checkSent(t, r.Step(voteReply(3, 0, 1, true)))
	checkStatus(t, r, api.Status{Role: api.Candidate, Term: 1, Leads: -1})
}

func TestP5ToStandBeginsThePatienceAnew(t *testing.T) {
	r := makeAsking(t, 0, 3, api.Saved{Vote: -1})
	tickInSilence(t, r, 9)
	r.Step(askReply(1, 0, 1, true))
	tickInSilence(t, r, 9)
	checkSent(t, r.Tick(), ask(0, 1, 2, 0, 0), ask(0, 2, 2, 0, 0))
	checkStatus(t, r, api.Status{Role: api.Asking, Term: 1, Leads: -1})
	checkSaved(t, r, api.Saved{Term: 1, Vote: 0})
}

func TestP5AnAskReplyThatGrantsCountsOnlyForWhatWasAsked(t *testing.T) {
	saved := api.Saved{Term: 5, Vote: 2}
	for _, term := range []int{1, 4, 5, 7, api.MaxTerm} {
		r := makeAsking(t, 0, 3, saved)
		checkUnmoved(t, r, func() []api.Message { return r.Step(askReply(1, 0, term, true)) })
	}
	for _, role := range []int{api.Follower, api.Candidate, api.Leader} {
		for term := 4; term <= 8; term++ {
			r := makers[role](t, 0, 3, saved)
			checkUnmoved(t, r, func() []api.Message { return r.Step(askReply(1, 0, term, true)) })
		}
	}
}

func TestP5ARefusalOfAGreaterTermIsFollowed(t *testing.T) {
	for role, start := range makers {
		for _, refusal := range []func(int, int, int, bool) api.Message{askReply, voteReply} {
			for _, term := range []int{7, 8, api.MaxTerm} {
				r := start(t, 0, 3, api.Saved{Term: 5, Vote: 2, Log: logOf(5)})
				last := r.Status().Last
				checkSent(t, r.Step(refusal(1, 0, term, false)))
				checkStatus(t, r, api.Status{Role: api.Follower, Term: term, Leads: -1, Last: last})
				if s := r.Saved(); s.Vote != -1 {
					t.Errorf("role %d: the vote is %d", role, s.Vote)
				}
			}
			for _, term := range []int{1, 4, 5} {
				r := start(t, 0, 3, api.Saved{Term: 5, Vote: 2, Log: logOf(5)})
				checkUnmoved(t, r, func() []api.Message { return r.Step(refusal(1, 0, term, false)) })
			}
		}
	}
}

func TestP5ARefusalOfTheNextTermIsFollowedWhileAsking(t *testing.T) {
	r := makeAsking(t, 0, 3, api.Saved{Term: 5, Vote: 2})
	checkSent(t, r.Step(askReply(1, 0, 6, false)))
	checkStatus(t, r, api.Status{Role: api.Follower, Term: 6, Leads: -1})
	checkUnmoved(t, r, func() []api.Message { return r.Step(askReply(2, 0, 7, true)) })
}

func TestP5ToFollowIsNoReasonToWaitAnew(t *testing.T) {
	for _, m := range []api.Message{askReply(1, 0, 3, false), voteReply(1, 0, 3, false), voteReply(1, 0, 3, true), appendReply(1, 0, 3, 0, true)} {
		r := mustOpen(t, 0, 3)
		tickInSilence(t, r, 9)
		checkSent(t, r.Step(m))
		checkStatus(t, r, api.Status{Role: api.Follower, Term: 3, Leads: -1})
		checkSent(t, r.Tick(), ask(0, 1, 4, 0, 0), ask(0, 2, 4, 0, 0))
	}
}

// logs are what a node of the log with the terms 1, 3, 3 thinks as good as its own, or not.
var logs = []struct {
	index, logTerm int
	good           bool
}{
	{3, 3, true}, {4, 3, true}, {2, 3, false}, {0, 3, false}, {1, 4, true}, {0, 4, true}, {0, api.MaxTerm, true},
	{3, 2, false}, {60, 2, false}, {api.MaxTerm, 2, false}, {3, 0, false}, {0, 0, false},
}

func TestP5AnAskIsGrantedForAGreaterTermAndAGoodLog(t *testing.T) {
	saved := api.Saved{Term: 5, Vote: 1, Log: logOf(1, 3, 3)}
	for _, c := range logs {
		for _, term := range []int{1, 4, 5, 6, 7, api.MaxTerm} {
			r := mustRestart(t, 0, 3, saved)
			tickInSilence(t, r, 9)
			want := askReply(0, 2, 5, false)
			if c.good && term > 5 {
				want = askReply(0, 2, term, true)
			}
			checkSent(t, r.Step(ask(2, 0, term, c.index, c.logTerm)), want)
			checkSaved(t, r, saved)
			checkStatus(t, r, api.Status{Role: api.Follower, Term: 5, Leads: -1, Last: 3})
			if ticks, _ := wake(r, 20); ticks != 1 {
				t.Errorf("behind an Ask it asks %d ticks on", ticks)
			}
		}
	}
}

func TestP5AnAskIsGrantedInEachRoleButALeaders(t *testing.T) {
	for role, start := range makers {
		r := start(t, 0, 3, api.Saved{Term: 5, Vote: 0})
		saved, status := r.Saved(), r.Status()
		want := askReply(0, 1, 9, true)
		if role == api.Leader {
			want = askReply(0, 1, 6, false)
		}
		checkSent(t, r.Step(ask(1, 0, 9, 40, 9)), want)
		checkSaved(t, r, saved)
		checkStatus(t, r, status)
	}
}

func TestP5AnAskIsGrantedInTheTermZero(t *testing.T) {
	r := mustOpen(t, 6, 7)
	checkSent(t, r.Step(ask(5, 6, 1, 0, 0)), askReply(6, 5, 1, true))
	checkSent(t, r.Step(ask(0, 6, 3, 0, 0)), askReply(6, 0, 3, true))
	checkStatus(t, r, api.Status{Role: api.Follower, Leads: -1})
}

func TestP5WhoKnowsALeaderIsNotMoved(t *testing.T) {
	r := mustOpen(t, 0, 3)
	r.Step(appendOf(1, 0, 2, 0, 0, 0))
	for range 10 {
		checkSent(t, r.Step(ask(2, 0, 3, 9, 9)), askReply(0, 2, 2, false))
		checkUnmoved(t, r, func() []api.Message { return r.Step(vote(2, 0, 3, 9, 9)) })
		checkUnmoved(t, r, func() []api.Message { return r.Step(vote(1, 0, 9, 9, 9)) })
		r.Tick()
		if r.Status().Role != api.Follower {
			break
		}
	}
	checkSent(t, r.Step(ask(2, 0, 3, 9, 9)), askReply(0, 2, 3, true))
}

func TestP5APatienceAtItsEndFreesAFollower(t *testing.T) {
	r := mustOpen(t, 0, 3)
	r.Step(appendOf(1, 0, 2, 0, 0, 0))
	tickInSilence(t, r, 5)
	r.Patience(6)
	checkSent(t, r.Step(ask(2, 0, 3, 0, 0)), askReply(0, 2, 2, false))
	checkSent(t, r.Step(vote(2, 0, 3, 0, 0)))
	r.Patience(5)
	checkSent(t, r.Step(ask(2, 0, 3, 0, 0)), askReply(0, 2, 3, true))
	checkStatus(t, r, api.Status{Role: api.Follower, Term: 2, Leads: 1})
	checkSent(t, r.Step(vote(2, 0, 3, 0, 0)), voteReply(0, 2, 3, true))
	checkStatus(t, r, api.Status{Role: api.Follower, Term: 3, Leads: -1})
}

func TestP5ALeaderIsMovedWhenItsPatienceIsAtItsEnd(t *testing.T) {
	r := makeLeader(t, 0, 3, api.Saved{Vote: -1})
	r.Tick()
	r.Tick()
	checkUnmoved(t, r, func() []api.Message { return r.Step(vote(2, 0, 4, 9, 9)) })
	r.Patience(2)
	checkSent(t, r.Step(ask(2, 0, 4, 9, 9)), askReply(0, 2, 4, true))
	checkStatus(t, r, api.Status{Role: api.Leader, Term: 1, Leads: 0, Last: 1})
	checkSent(t, r.Step(vote(2, 0, 4, 9, 9)), voteReply(0, 2, 4, true))
	checkStatus(t, r, api.Status{Role: api.Follower, Term: 4, Leads: -1, Last: 1})
}

func TestP5AVoteIsGrantedToOneAndToAGoodLog(t *testing.T) {
	for _, c := range logs {
		for before := -1; before <= 2; before++ {
			for _, term := range []int{5, 6, api.MaxTerm} {
				r := mustRestart(t, 0, 3, api.Saved{Term: 5, Vote: before, Log: logOf(1, 3, 3)})
				after := before
				if term > 5 {
					after = -1
				}
				granted := c.good && (after == -1 || after == 2)
				if granted {
					after = 2
				}
				checkSent(t, r.Step(vote(2, 0, term, c.index, c.logTerm)), voteReply(0, 2, term, granted))
				checkSaved(t, r, api.Saved{Term: term, Vote: after, Log: logOf(1, 3, 3)})
				checkStatus(t, r, api.Status{Role: api.Follower, Term: term, Leads: -1, Last: 3})
			}
		}
	}
}

func TestP5AVoteOfAnEarlierTermIsToldOfTheTerm(t *testing.T) {
	for _, start := range makers {
		for _, term := range []int{1, 4} {
			r := start(t, 0, 3, api.Saved{Term: 5, Vote: -1})
			saved, status := r.Saved(), r.Status()
			checkSent(t, r.Step(vote(2, 0, term, 60, 5)), voteReply(0, 2, status.Term, false))
			checkSaved(t, r, saved)
			checkStatus(t, r, status)
		}
	}
	r := mustOpen(t, 0, 3)
	r.Step(appendOf(1, 0, 5, 0, 0, 0))
	checkSent(t, r.Step(vote(2, 0, 4, 60, 5)), voteReply(0, 2, 5, false))
	checkStatus(t, r, api.Status{Role: api.Follower, Term: 5, Leads: 1})
}

func TestP5OnlyAFollowerVotesInItsTerm(t *testing.T) {
	// The saved vote is for the one that asks: an Asking node keeps it, and yet does not grant it.
	for role, start := range makers {
		r := start(t, 0, 3, api.Saved{Term: 5, Vote: 2})
		status := r.Status()
		granted := role == api.Follower
		checkSent(t, r.Step(vote(2, 0, status.Term, 60, 5)), voteReply(0, 2, status.Term, granted))
		checkStatus(t, r, status)
	}
}

func TestP5AVoteOfAGreaterTermIsFollowedByThoseThatKnowNoLeader(t *testing.T) {
	for _, role := range []int{api.Follower, api.Asking, api.Candidate} {
		for _, good := range []bool{true, false} {
			r := makers[role](t, 0, 3, api.Saved{Term: 5, Vote: 0, Log: logOf(5)})
			index, after := 1, 2
			if !good {
				index, after = 0, -1
			}
			checkSent(t, r.Step(vote(2, 0, 9, index, 5)), voteReply(0, 2, 9, good))
			checkStatus(t, r, api.Status{Role: api.Follower, Term: 9, Leads: -1, Last: 1})
			checkSaved(t, r, api.Saved{Term: 9, Vote: after, Log: logOf(5)})
		}
	}
}

// The words bind only a greater term to what the node knows of a leader.
func TestP5AVoteInTheTermOfAKnownLeaderIsGranted(t *testing.T) {
	r := mustOpen(t, 0, 3)
	r.Step(appendOf(1, 0, 5, 0, 0, 0))
	checkSent(t, r.Step(vote(2, 0, 5, 0, 0)), voteReply(0, 2, 5, true))
	checkStatus(t, r, api.Status{Role: api.Follower, Term: 5, Leads: 1})
	checkSaved(t, r, api.Saved{Term: 5, Vote: 2})
	checkSent(t, r.Step(vote(1, 0, 5, 0, 0)), voteReply(0, 1, 5, false))
}

func TestP5AVoteThatIsGrantedBeginsThePatienceAnew(t *testing.T) {
	for _, c := range []struct {
		m    api.Message
		left int
	}{
		{vote(2, 0, 5, 1, 5), 10}, {vote(2, 0, 6, 1, 5), 10},
		{vote(2, 0, 4, 1, 5), 1}, {vote(2, 0, 5, 0, 5), 1}, {vote(2, 0, 6, 0, 5), 1}, {vote(1, 0, 5, 1, 5), 1},
	} {
		r := mustRestart(t, 0, 3, api.Saved{Term: 5, Vote: 2, Log: logOf(5)})
		tickInSilence(t, r, 9)
		r.Step(c.m)
		if ticks, _ := wake(r, 20); ticks != c.left {
			t.Errorf("behind %+v it asks at tick %d, want %d", c.m, ticks, c.left)
		}
	}
}

func TestP5AVoteReplyCountsOnlyForACandidateOfItsTerm(t *testing.T) {
	saved := api.Saved{Term: 5, Vote: 2}
	for role, start := range makers {
		for term := 1; term <= 6; term++ {
			r := start(t, 0, 3, saved)
			if own := r.Status().Term; term > own || role == api.Candidate && term == own {
				continue
			}
			checkUnmoved(t, r, func() []api.Message { return r.Step(voteReply(1, 0, term, true)) })
		}
	}
	r := makeCandidate(t, 0, 3, saved)
	checkUnmoved(t, r, func() []api.Message { return r.Step(voteReply(1, 0, 6, false)) })
	checkSent(t, r.Step(voteReply(1, 0, 7, true)))
	checkStatus(t, r, api.Status{Role: api.Follower, Term: 7, Leads: -1})
	checkSaved(t, r, api.Saved{Term: 7, Vote: -1})
}

func TestP5ToLeadBeginsThePatienceAnew(t *testing.T) {
	r := makeCandidate(t, 0, 3, api.Saved{Vote: -1})
	tickInSilence(t, r, 9)
	r.Step(voteReply(1, 0, 1, true))
	for range 9 {
		checkSent(t, r.Tick(), toOthers(appendOf(0, 0, 1, 0, 0, 0, api.Entry{Term: 1}), 3)...)
	}
	checkSent(t, r.Tick())
	checkStatus(t, r, api.Status{Role: api.Follower, Term: 1, Leads: -1, Last: 1})
}

func TestP5ALeaderThatHearsOfNobodyStepsDown(t *testing.T) {
	for n := 2; n <= api.MaxNodes; n++ {
		r := makeLeader(t, n-1, n, api.Saved{Term: 3, Vote: -1})
		r.Patience(4)
		for range 3 {
			checkSent(t, r.Tick(), toOthers(appendOf(n-1, 0, 4, 0, 0, 0, api.Entry{Term: 4}), n)...)
		}
		checkSent(t, r.Tick())
		checkStatus(t, r, api.Status{Role: api.Follower, Term: 4, Leads: -1, Last: 1})
		checkSaved(t, r, api.Saved{Term: 4, Vote: n - 1, Log: []api.Entry{{Term: 4}}})
		tickInSilence(t, r, 3)
		checkSent(t, r.Tick(), toOthers(ask(n-1, 0, 5, 1, 4), n)...)
	}
}

func TestP5ALeaderStaysOneWhileAMajorityIsHeard(t *testing.T) {
	for n := 2; n <= api.MaxNodes; n++ {
		for heard := range n {
			r := makeLeader(t, 0, n, api.Saved{Vote: -1})
			r.Patience(2)
			// The leader hears in the first of these times, and not in the second.
			for from := 1; from <= heard; from++ {
				r.Step(appendReply(from, 0, 1, 0, from%2 == 0))
				r.Step(appendReply(from, 0, 1, 0, from%2 == 0))
			}
			r.Tick()
			l := r.Tick()
			if 2*(heard+1) <= n {
				checkSent(t, l)
				checkStatus(t, r, api.Status{Role: api.Follower, Term: 1, Leads: -1, Last: 1})
				continue
			}
			if len(l) != n-1 || r.Status().Role != api.Leader {
				t.Errorf("%d of %d heard: %+v, sent %+v", heard, n, r.Status(), l)
			}
			r.Tick()
			checkSent(t, r.Tick())
			checkStatus(t, r, api.Status{Role: api.Follower, Term: 1, Leads: -1, Last: 1})
		}
	}
}

func TestP5ALeaderHearsOnlyRepliesOfItsTerm(t *testing.T) {
	r := makeLeader(t, 0, 3, api.Saved{Term: 5, Vote: -1})
	r.Patience(1)
	for term := 1; term <= 5; term++ {
		checkUnmoved(t, r, func() []api.Message { return r.Step(appendReply(1, 0, term, 1, true)) })
	}
	checkSent(t, r.Step(voteReply(1, 0, 6, true)))
	checkSent(t, r.Step(askReply(1, 0, 7, true)))
	checkSent(t, r.Tick())
	checkStatus(t, r, api.Status{Role: api.Follower, Term: 6, Leads: -1, Last: 1})
}

func TestP5WhatALeaderHeardInAnEarlierTermIsForgotten(t *testing.T) {
	r := makeLeader(t, 0, 3, api.Saved{Vote: -1})
	r.Step(appendReply(1, 0, 1, 0, false))
	r.Step(askReply(1, 0, 2, false))
	for range 10 {
		r.Tick()
	}
	r.Step(askReply(1, 0, 3, true))
	r.Step(voteReply(1, 0, 3, true))
	checkStatus(t, r, api.Status{Role: api.Leader, Term: 3, Leads: 0, Last: 2})
	for range 10 {
		r.Tick()
	}
	checkStatus(t, r, api.Status{Role: api.Follower, Term: 3, Leads: -1, Last: 2})
}

func TestP5WhatIsNotSoundIsNothing(t *testing.T) {
	const low, high = -1, api.MaxTerm + 1
	wrong := []func(*api.Message){
		func(m *api.Message) { m.From = 0 },
		func(m *api.Message) { m.From = 3 },
		func(m *api.Message) { m.From = 6 },
		func(m *api.Message) { m.From = low },
		func(m *api.Message) { m.To = 1 },
		func(m *api.Message) { m.To = 2 },
		func(m *api.Message) { m.To = low },
		func(m *api.Message) { m.Term = 0 },
		func(m *api.Message) { m.Term = low },
		func(m *api.Message) { m.Term = high },
		func(m *api.Message) { m.Index = low },
		func(m *api.Message) { m.Index = high },
		func(m *api.Message) { m.LogTerm = low },
		func(m *api.Message) { m.LogTerm = high },
		func(m *api.Message) { m.Commit = low },
		func(m *api.Message) { m.Commit = high },
		func(m *api.Message) { m.Entries = sameEntries(4, api.Entry{Term: 9}) },
		func(m *api.Message) { m.Entries = sameEntries(1000, api.Entry{Term: 9}) },
		func(m *api.Message) { m.Entries = logOf(0) },
		func(m *api.Message) { m.Entries = logOf(-1) },
		func(m *api.Message) { m.Entries = logOf(9, 9, 10) },
		func(m *api.Message) { m.Entries = logOf(8, 7) },
		func(m *api.Message) { m.Entries = logOf(8, 9, 8) },
		func(m *api.Message) { m.LogTerm, m.Entries = 8, logOf(7) },
		func(m *api.Message) { m.LogTerm, m.Entries = 10, logOf(9) },
		func(m *api.Message) { m.Entries = []api.Entry{{Term: 9, Command: "123456789012345678901"}} },
		func(m *api.Message) { m.Entries = []api.Entry{{Term: 9}, {Term: 9, Command: "ééééééééééé"}} },
	}
	for _, far := range farNumbers {
		wrong = append(wrong,
			func(m *api.Message) { m.Kind = far },
			func(m *api.Message) { m.From = far },
			func(m *api.Message) { m.To = far },
			func(m *api.Message) { m.Term = far },
			func(m *api.Message) { m.Index = far },
			func(m *api.Message) { m.LogTerm = far },
			func(m *api.Message) { m.Commit = far },
			func(m *api.Message) { m.Entries = logOf(far) })
	}
	for _, start := range makers {
		r := start(t, 0, 3, api.Saved{Term: 1, Vote: -1})
		for kind := api.Ask; kind <= api.AppendReply; kind++ {
			for _, spoil := range wrong {
				m := api.Message{Kind: kind, From: 1, Term: 9}
				spoil(&m)
				checkUnmoved(t, r, func() []api.Message { return r.Step(m) })
			}
		}
		for _, kind := range []int{-1, 6, 7} {
			checkUnmoved(t, r, func() []api.Message { return r.Step(api.Message{Kind: kind, From: 1, Term: 9}) })
		}
	}
}

// One that is not sound says nothing of a leader either: the patience goes on.
func TestP5WhatIsNotSoundDoesNotBeginThePatienceAnew(t *testing.T) {
	r := mustOpen(t, 0, 3)
	tickInSilence(t, r, 9)
	r.Step(appendOf(1, 0, 1, 0, 0, -1))
	r.Step(vote(3, 0, 1, 0, 0))
	checkSent(t, r.Tick(), ask(0, 1, 1, 0, 0), ask(0, 2, 1, 0, 0))
}

func TestP5WhatIsSoundAtTheEdges(t *testing.T) {
	for _, m := range []api.Message{
		{Kind: api.Vote, From: 6, Term: api.MaxTerm, Index: api.MaxTerm, LogTerm: api.MaxTerm, Commit: api.MaxTerm},
		{Kind: api.Vote, From: 1, Term: 1},
		{Kind: api.Vote, From: 1, Term: 1, LogTerm: 2, Granted: true},
		{Kind: api.Vote, From: 1, Term: 9, LogTerm: 3, Entries: logOf(3, 3, 9)},
		{Kind: api.Vote, From: 1, Term: 9, Entries: []api.Entry{{Term: 1, Command: "12345678901234567890"}}},
	} {
		r := mustOpen(t, 0, 7)
		checkSent(t, r.Step(m), voteReply(0, m.From, m.Term, true))
	}
}

func TestP5ThreeNodesElectOne(t *testing.T) {
	nodes := []*quorum.Node{mustOpen(t, 0, 3), mustOpen(t, 1, 3), mustOpen(t, 2, 3)}
	tickInSilence(t, nodes[0], 9)
	asks := nodes[0].Tick()
	checkSent(t, asks, ask(0, 1, 1, 0, 0), ask(0, 2, 1, 0, 0))
	first, second := nodes[1].Step(asks[0]), nodes[2].Step(asks[1])
	checkSent(t, first, askReply(1, 0, 1, true))
	votes := nodes[0].Step(first[0])
	checkSent(t, votes, vote(0, 1, 1, 0, 0), vote(0, 2, 1, 0, 0))
	checkSent(t, nodes[0].Step(second[0]))
	first, second = nodes[1].Step(votes[0]), nodes[2].Step(votes[1])
	checkSent(t, first, voteReply(1, 0, 1, true))
	appends := nodes[0].Step(first[0])
	checkSent(t, appends, appendOf(0, 1, 1, 0, 0, 0, api.Entry{Term: 1}), appendOf(0, 2, 1, 0, 0, 0, api.Entry{Term: 1}))
	checkSent(t, nodes[0].Step(second[0]))
	checkStatus(t, nodes[0], api.Status{Role: api.Leader, Term: 1, Leads: 0, Last: 1})
	checkSent(t, nodes[1].Step(appends[0]), appendReply(1, 0, 1, 1, true))
	checkStatus(t, nodes[1], api.Status{Role: api.Follower, Term: 1, Leads: 0, Last: 1})
}
