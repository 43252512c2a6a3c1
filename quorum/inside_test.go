package quorum

import (
	"slices"
	"strconv"
	"sync"
	"testing"
	"time"

	"quorum/api"
)

func openNode(t *testing.T, id, n int) *Node {
	t.Helper()
	r, e := Open(id, n)
	if e != api.OK {
		t.Fatalf("Open(%d, %d) = %d", id, n, e)
	}
	return r
}

func TestP3APatienceHoldsUntilTheNext(t *testing.T) {
	r := openNode(t, 0, 3)
	if r.patience != 10 {
		t.Errorf("the first patience is %d", r.patience)
	}
	for _, ticks := range []int{1, 40, 7} {
		r.Patience(ticks)
		for _, wrong := range []int{0, -1, 41} {
			r.Patience(wrong)
		}
		if r.patience != ticks {
			t.Errorf("behind Patience(%d): %d", ticks, r.patience)
		}
	}
}

func TestP3APatienceIsOneNodesOwn(t *testing.T) {
	one, other := openNode(t, 0, 3), openNode(t, 1, 3)
	one.Patience(3)
	if other.patience != 10 {
		t.Errorf("another node's patience is %d", other.patience)
	}
}

func TestP3ANodeKnowsWhichItIs(t *testing.T) {
	r := openNode(t, 4, 6)
	if r.id != 4 || r.n != 6 {
		t.Errorf("Open(4, 6) is node %d of %d", r.id, r.n)
	}
}

func TestP4StatusTellsEachField(t *testing.T) {
	r := openNode(t, 1, 5)
	r.role, r.term, r.leads, r.commit = api.Leader, 8, 3, 1
	r.log = []api.Entry{{Term: 7}, {Term: 8, Command: "a"}}
	want := api.Status{Role: api.Leader, Term: 8, Leads: 3, Commit: 1, Last: 2}
	if got := r.Status(); got != want {
		t.Errorf("Status() = %+v, want %+v", got, want)
	}
}

func TestP4CommittedStopsAtCommitAndLeavesOutTheEmpty(t *testing.T) {
	r := openNode(t, 0, 3)
	for _, command := range []string{"", "b", "a", "", "", "b", ""} {
		r.log = append(r.log, api.Entry{Term: 1, Command: command})
	}
	for commit, want := range [][]string{{}, {}, {"b"}, {"b", "a"}, {"b", "a"}, {"b", "a"}, {"b", "a", "b"}, {"b", "a", "b"}} {
		r.commit = commit
		if got := r.Committed(); !slices.Equal(got, want) {
			t.Errorf("commit %d: Committed() = %q, want %q", commit, got, want)
		}
	}
}

func TestP4CommittedOfAFullLog(t *testing.T) {
	r := openNode(t, 0, 3)
	var want []string
	for i := range api.MaxLog {
		want = append(want, strconv.Itoa(i))
		r.log = append(r.log, api.Entry{Term: 1, Command: want[i]})
	}
	r.commit = api.MaxLog
	if got := r.Committed(); !slices.Equal(got, want) {
		t.Errorf("Committed() = %q", got)
	}
}

func TestP2CommittedAnswersNewMemory(t *testing.T) {
	r := openNode(t, 0, 3)
	r.log = []api.Entry{{Term: 1, Command: "a"}, {Term: 1, Command: "b"}, {Term: 1, Command: "c"}}
	r.commit = 3
	one, other := r.Committed(), r.Committed()
	for i := range cap(one) {
		one[:cap(one)][i] = "z"
	}
	for _, l := range [][]string{other, r.Committed()} {
		if !slices.Equal(l, []string{"a", "b", "c"}) {
			t.Errorf("another answer is now %q", l)
		}
	}
}

// No call leads to this state: a leader is known only from the term 1 on.
func TestP5AnAskReplyOfTheTermZeroIsNotSent(t *testing.T) {
	r := openNode(t, 0, 3)
	r.leads = 1
	if l := r.Step(api.Message{Kind: api.Ask, From: 2, Term: 1}); len(l) > 0 {
		t.Errorf("sent %+v", l)
	}
}

func TestP6ToLeadForgetsWhatWasKeptOfTheOthers(t *testing.T) {
	r := openNode(t, 1, 3)
	r.log = []api.Entry{{Term: 1}, {Term: 1}}
	r.term = 2
	r.next, r.match, r.heard = [7]int{3, 3, 3}, [7]int{1, 2, 3}, nodeSet{true, false, true}
	r.lead()
	if r.next != [7]int{3, 3, 3} || r.match != [7]int{0, 3, 0} || r.heard != (nodeSet{}) || r.commit != 0 {
		t.Errorf("next %v, match %v, heard %v, commit %d", r.next, r.match, r.heard, r.commit)
	}
}

func TestP6CountTakesTheGreatestOfItsTermThatAMajorityHas(t *testing.T) {
	for _, c := range []struct {
		match        []int
		commit, want int
	}{
		{[]int{6, 0, 0}, 0, 0}, {[]int{6, 3, 0}, 0, 0}, {[]int{6, 4, 0}, 0, 4}, {[]int{6, 0, 5}, 0, 5}, {[]int{6, 6, 6}, 0, 6},
		{[]int{6, 4, 0}, 5, 5}, {[]int{6, 5, 0}, 5, 5}, {[]int{6, 6, 0}, 5, 6}, {[]int{6, 3, 3}, 1, 1},
		{[]int{6, 6}, 2, 6}, {[]int{6, 5}, 2, 5}, {[]int{6, 0}, 2, 2}, {[]int{6}, 0, 6},
		{[]int{6, 6, 5, 0}, 0, 5}, {[]int{6, 6, 0, 0}, 0, 0}, {[]int{6, 0, 4, 5, 0}, 0, 4}, {[]int{6, 6, 6, 5, 5, 4, 4}, 0, 5},
	} {
		r := openNode(t, 0, len(c.match))
		r.term, r.commit = 3, c.commit
		for _, term := range []int{1, 2, 2, 3, 3, 3} {
			r.log = append(r.log, api.Entry{Term: term})
		}
		copy(r.match[:], c.match)
		r.count()
		if r.commit != c.want {
			t.Errorf("match %v: the commit goes from %d to %d, want %d", c.match, c.commit, r.commit, c.want)
		}
	}
}

func TestP6AnAppendHasTheFirstFewThatAreMissing(t *testing.T) {
	r := openNode(t, 0, 3)
	r.role, r.leads, r.term, r.commit = api.Leader, 0, 7, 2
	for i := range 5 {
		r.log = append(r.log, api.Entry{Term: i + 1, Command: strconv.Itoa(i)})
	}
	for next, entries := range map[int][]api.Entry{1: r.log[:3], 2: r.log[1:4], 3: r.log[2:], 5: r.log[4:], 6: nil} {
		r.next[1], r.next[2] = next, 6
		l := r.Tick()
		r.elapsed = 0
		if len(l) != 2 {
			t.Fatalf("sent %+v", l)
		}
		m := l[0]
		if m.Kind != api.Append || m.From != 0 || m.To != 1 || m.Term != 7 || m.Index != next-1 || m.LogTerm != next-1 || m.Commit != 2 || m.Granted || !slices.Equal(m.Entries, entries) {
			t.Errorf("next %d: sent %+v", next, m)
		}
		if m = l[1]; m.To != 2 || m.Index != 5 || m.LogTerm != 5 || len(m.Entries) > 0 {
			t.Errorf("next 6: sent %+v", m)
		}
	}
}

// The pause can only let a call that takes no lock slip through unseen; it cannot fail one that takes it.
func TestCallsWaitForTheNodesLock(t *testing.T) {
	for name, call := range map[string]func(*Node){
		"Patience":  func(r *Node) { r.Patience(5) },
		"Tick":      func(r *Node) { r.Tick() },
		"Step":      func(r *Node) { r.Step(api.Message{Kind: api.Vote, From: 1, Term: 1}) },
		"Propose":   func(r *Node) { r.Propose("a") },
		"Saved":     func(r *Node) { r.Saved() },
		"Status":    func(r *Node) { r.Status() },
		"Committed": func(r *Node) { r.Committed() },
	} {
		r := openNode(t, 0, 3)
		r.mu.Lock()
		done := make(chan bool)
		go func() {
			call(r)
			close(done)
		}()
		select {
		case <-done:
			t.Errorf("%s does not wait for the lock", name)
		case <-time.After(20 * time.Millisecond):
		}
		r.mu.Unlock()
		<-done
	}
}

func TestANodeMayBeAskedBySeveralAtOnce(t *testing.T) {
	r := openNode(t, 0, 3)
	var all sync.WaitGroup
	for ticks := 1; ticks <= api.MaxTicks; ticks++ {
		all.Go(func() {
			r.Patience(ticks)
			r.Patience(0)
			r.Tick()
			for kind := api.Ask; kind <= api.AppendReply; kind++ {
				r.Step(api.Message{Kind: kind, From: 1 + ticks%2, Term: ticks, Granted: true})
			}
			r.Propose("a")
			r.Saved()
			r.Status()
			r.Committed()
		})
	}
	all.Wait()
	if r.patience < 1 || r.patience > api.MaxTicks {
		t.Errorf("the patience is %d", r.patience)
	}
}

func TestALeaderMayBeProposedToBySeveralAtOnce(t *testing.T) {
	r := openNode(t, 0, 1)
	r.Patience(1)
	r.Tick()
	numbers := make([]int, 2*api.MaxLog)
	var all sync.WaitGroup
	for i := range numbers {
		all.Go(func() { numbers[i], _, _ = r.Propose("c" + strconv.Itoa(i)) })
	}
	all.Wait()
	log := r.Saved().Log
	if len(log) != api.MaxLog || r.Status().Commit != api.MaxLog {
		t.Fatalf("%+v", r.Status())
	}
	for i, number := range numbers {
		if number > 0 && log[number-1].Command != "c"+strconv.Itoa(i) {
			t.Errorf("the entry %d is %+v, but was told to be c%d", number, log[number-1], i)
		}
	}
	if taken := slices.DeleteFunc(numbers, func(number int) bool { return number == 0 }); len(taken) != api.MaxLog-1 {
		t.Errorf("%d were taken", len(taken))
	}
}
