package quorum_test

import (
	"math"
	"slices"
	"strings"
	"testing"
	"unsafe"

	"quorum/api"
	"quorum/quorum"
)

var farNumbers = []int{math.MinInt, math.MinInt + 1, math.MinInt32, math.MaxInt32, math.MaxInt - 1, math.MaxInt}

// numbers gives all from low to high, and those at the far ends.
func numbers(low, high int) []int {
	l := slices.Clone(farNumbers)
	for i := low; i <= high; i++ {
		l = append(l, i)
	}
	return l
}

func mustRestart(t *testing.T, id, n int, saved api.Saved) *quorum.Node {
	t.Helper()
	r, e := quorum.Restart(id, n, saved)
	if r == nil || e != api.OK {
		t.Fatalf("Restart(%d, %d, %+v) = %v, %d", id, n, saved, r, e)
	}
	return r
}

func checkSaved(t *testing.T, r *quorum.Node, want api.Saved) {
	t.Helper()
	got := r.Saved()
	if got.Term != want.Term || got.Vote != want.Vote || !slices.Equal(got.Log, want.Log) {
		t.Errorf("Saved() = %+v, want %+v", got, want)
	}
}

func checkStatus(t *testing.T, r *quorum.Node, want api.Status) {
	t.Helper()
	if got := r.Status(); got != want {
		t.Errorf("Status() = %+v, want %+v", got, want)
	}
}

func sameEntries(count int, e api.Entry) []api.Entry {
	return slices.Repeat([]api.Entry{e}, count)
}

func TestP3OpenAndRestartAskForSoundNodes(t *testing.T) {
	for _, n := range numbers(-2, 10) {
		for _, id := range numbers(-2, 10) {
			want := api.ErrNodes
			if n >= 1 && n <= 7 && id >= 0 && id <= n-1 {
				want = api.OK
			}
			r, e := quorum.Open(id, n)
			if e != want || (r != nil) != (want == api.OK) {
				t.Errorf("Open(%d, %d) = %v, %d, want %d", id, n, r, e, want)
			}
			r, e = quorum.Restart(id, n, api.Saved{Vote: -1})
			if e != want || (r != nil) != (want == api.OK) {
				t.Errorf("Restart(%d, %d, nothing) = %v, %d, want %d", id, n, r, e, want)
			}
		}
	}
}

func TestP3OpenGivesTheNodeAsAtFirst(t *testing.T) {
	for n := 1; n <= api.MaxNodes; n++ {
		for id := range n {
			r, _ := quorum.Open(id, n)
			checkSaved(t, r, api.Saved{Vote: -1})
			checkStatus(t, r, api.Status{Role: api.Follower, Leads: -1})
			if l := r.Committed(); len(l) > 0 {
				t.Errorf("Open(%d, %d): Committed() = %q", id, n, l)
			}
		}
	}
}

func TestP3RestartTellsErrNodesAheadOfErrSaved(t *testing.T) {
	bad := api.Saved{Term: -1, Vote: 9, Log: []api.Entry{{Term: 7}}}
	if r, e := quorum.Restart(3, 3, bad); r != nil || e != api.ErrNodes {
		t.Errorf("Restart of a wrong node = %v, %d", r, e)
	}
	if r, e := quorum.Restart(2, 3, bad); r != nil || e != api.ErrSaved {
		t.Errorf("Restart of a right node = %v, %d", r, e)
	}
}

func TestP3RestartAsksForASoundTermAndVote(t *testing.T) {
	terms := append(numbers(-2, 2), api.MaxTerm-1, api.MaxTerm, api.MaxTerm+1)
	for _, n := range []int{1, 3, 7} {
		for _, term := range terms {
			for _, vote := range numbers(-3, 9) {
				saved := api.Saved{Term: term, Vote: vote}
				if term >= 0 && term <= 1000000 && vote >= -1 && vote <= n-1 {
					checkSaved(t, mustRestart(t, 0, n, saved), saved)
				} else if r, e := quorum.Restart(0, n, saved); r != nil || e != api.ErrSaved {
					t.Errorf("Restart(0, %d, %+v) = %v, %d", n, saved, r, e)
				}
			}
		}
	}
}

func TestP3RestartTakesSoundLogs(t *testing.T) {
	twenty := strings.Repeat("x", 20)
	for _, saved := range []api.Saved{
		{Term: 0, Vote: -1, Log: []api.Entry{}},
		{Term: 1, Vote: 0, Log: []api.Entry{{Term: 1}}},
		{Term: 5, Vote: 2, Log: []api.Entry{{Term: 1, Command: "a"}, {Term: 1}, {Term: 4, Command: twenty}, {Term: 5, Command: "a"}}},
		{Term: 9, Vote: 1, Log: []api.Entry{{Term: 3, Command: "\xff\x00\n"}, {Term: 3, Command: strings.Repeat("é", 10)}}},
		{Term: api.MaxTerm, Vote: -1, Log: []api.Entry{{Term: 1}, {Term: api.MaxTerm}}},
		{Term: 2, Vote: -1, Log: sameEntries(59, api.Entry{Term: 2, Command: "b"})},
		{Term: 2, Vote: -1, Log: sameEntries(60, api.Entry{Term: 2, Command: twenty})},
	} {
		r := mustRestart(t, 1, 3, saved)
		checkSaved(t, r, saved)
		checkStatus(t, r, api.Status{Role: api.Follower, Term: saved.Term, Leads: -1, Last: len(saved.Log)})
		if l := r.Committed(); len(l) > 0 {
			t.Errorf("Restart(1, 3, %+v): Committed() = %q", saved, l)
		}
	}
}

// Each fault alone, at every place in the log: a check that stops early or starts late lets one through.
func TestP3RestartRefusesOneBadEntryAnywhere(t *testing.T) {
	for at := range api.MaxLog {
		for _, bad := range []api.Entry{
			{Term: 0}, {Term: -1}, {Term: math.MinInt}, {Term: 4}, {Term: math.MaxInt},
			{Term: 2, Command: strings.Repeat("x", 21)},
			{Term: 2, Command: strings.Repeat("€", 7)},
			{Term: 2, Command: strings.Repeat("x", 1<<16)},
		} {
			log := sameEntries(api.MaxLog, api.Entry{Term: 2, Command: "a"})
			log[at] = bad
			if r, e := quorum.Restart(0, 3, api.Saved{Term: 3, Vote: -1, Log: log}); r != nil || e != api.ErrSaved {
				t.Errorf("entry %d is %d and %d bytes: Restart = %v, %d", at+1, bad.Term, len(bad.Command), r, e)
			}
		}
	}
}

func TestP3RestartRefusesTermsThatFall(t *testing.T) {
	for at := 1; at < api.MaxLog; at++ {
		log := append(sameEntries(at, api.Entry{Term: 3}), sameEntries(api.MaxLog-at, api.Entry{Term: 2})...)
		if r, e := quorum.Restart(0, 3, api.Saved{Term: 3, Vote: -1, Log: log}); r != nil || e != api.ErrSaved {
			t.Errorf("the term falls at entry %d: Restart = %v, %d", at+1, r, e)
		}
	}
	log := []api.Entry{{Term: 1}, {Term: 3}, {Term: 2}, {Term: 3}}
	if r, e := quorum.Restart(0, 3, api.Saved{Term: 3, Vote: -1, Log: log}); r != nil || e != api.ErrSaved {
		t.Errorf("the term falls and rises: Restart = %v, %d", r, e)
	}
}

func TestP3RestartRefusesLongLogs(t *testing.T) {
	for _, count := range []int{61, 62, 1000} {
		saved := api.Saved{Term: 1, Vote: -1, Log: sameEntries(count, api.Entry{Term: 1})}
		if r, e := quorum.Restart(0, 1, saved); r != nil || e != api.ErrSaved {
			t.Errorf("%d entries: Restart = %v, %d", count, r, e)
		}
	}
}

func TestP3RestartRefusesEntriesInTermZero(t *testing.T) {
	for _, term := range []int{0, 1} {
		saved := api.Saved{Term: 0, Vote: -1, Log: []api.Entry{{Term: term}}}
		if r, e := quorum.Restart(0, 3, saved); r != nil || e != api.ErrSaved {
			t.Errorf("Restart(0, 3, %+v) = %v, %d", saved, r, e)
		}
	}
}

func TestP3PatienceAsksForTicksInTheLimits(t *testing.T) {
	r, _ := quorum.Open(0, 3)
	for _, ticks := range numbers(-3, 50) {
		want := api.ErrTicks
		if ticks >= 1 && ticks <= 40 {
			want = api.OK
		}
		if e := r.Patience(ticks); e != want {
			t.Errorf("Patience(%d) = %d, want %d", ticks, e, want)
		}
	}
	checkSaved(t, r, api.Saved{Vote: -1})
	checkStatus(t, r, api.Status{Role: api.Follower, Leads: -1})
}

func TestP4ANodeGoesOnFromWhatItSaved(t *testing.T) {
	saved := api.Saved{Term: 4, Vote: 2, Log: []api.Entry{{Term: 1, Command: "a"}, {Term: 4}}}
	first := mustRestart(t, 2, 5, saved)
	checkSaved(t, mustRestart(t, 2, 5, first.Saved()), saved)
}

func TestP2RestartNeitherWritesNorKeepsTheLog(t *testing.T) {
	room := sameEntries(5, api.Entry{Term: 1, Command: "spare"})
	room[0].Command, room[1].Command = "a", "b"
	before := slices.Clone(room)
	r := mustRestart(t, 0, 3, api.Saved{Term: 1, Vote: -1, Log: room[:2]})
	r.Saved()
	if !slices.Equal(room, before) {
		t.Errorf("the list handed in is now %+v", room)
	}
	room[0] = api.Entry{Term: 9, Command: "z"}
	checkSaved(t, r, api.Saved{Term: 1, Vote: -1, Log: before[:2]})
}

func TestP2RestartKeepsNoCommandHandedIn(t *testing.T) {
	command := strings.Repeat("a", 20)
	r := mustRestart(t, 0, 3, api.Saved{Term: 1, Vote: -1, Log: []api.Entry{{Term: 1, Command: command}}})
	if unsafe.StringData(r.Saved().Log[0].Command) == unsafe.StringData(command) {
		t.Error("the bytes of the command that was handed in are kept")
	}
}

func TestP2SavedAnswersNewMemory(t *testing.T) {
	want := api.Saved{Term: 1, Vote: -1, Log: []api.Entry{{Term: 1, Command: "a"}, {Term: 1, Command: "b"}}}
	r := mustRestart(t, 0, 3, want)
	one, other := r.Saved(), r.Saved()
	all := one.Log[:cap(one.Log)]
	for i := range all {
		all[i] = api.Entry{Term: 9, Command: "z"}
	}
	if !slices.Equal(other.Log, want.Log) {
		t.Errorf("another answer is now %+v", other)
	}
	checkSaved(t, r, want)
}

func TestP2NodesAreNothingToOneAnother(t *testing.T) {
	saved := api.Saved{Term: 1, Vote: 0, Log: []api.Entry{{Term: 1, Command: "a"}}}
	one := mustRestart(t, 0, 3, saved)
	other, _ := quorum.Open(1, 3)
	third := mustRestart(t, 2, 3, one.Saved())
	checkSaved(t, one, saved)
	checkSaved(t, other, api.Saved{Vote: -1})
	checkSaved(t, third, saved)
}
