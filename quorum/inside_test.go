package quorum

import (
	"slices"
	"strconv"
	"sync"
	"testing"
	"time"

	"quorum/api"
)

func openNode(t *testing.T, id, n int) *Node {
	t.Helper()
	r, e := Open(id, n)
	if e != api.OK {
		t.Fatalf("Open(%d, %d) = %d", id, n, e)
	}
	return r
}

func TestP3APatienceHoldsUntilTheNext(t *testing.T) {
	r := openNode(t, 0, 3)
	if r.patience != 10 {
		t.Errorf("the first patience is %d", r.patience)
	}
	for _, ticks := range []int{1, 40, 7} {
		r.Patience(ticks)
		for _, wrong := range []int{0, -1, 41} {
			r.Patience(wrong)
		}
		if r.patience != ticks {
			t.Errorf("behind Patience(%d): %d", ticks, r.patience)
		}
	}
}

func TestP3APatienceIsOneNodesOwn(t *testing.T) {
	one, other := openNode(t, 0, 3), openNode(t, 1, 3)
	one.Patience(3)
	if other.patience != 10 {
		t.Errorf("another node's patience is %d", other.patience)
	}
}

func TestP3ANodeKnowsWhichItIs(t *testing.T) {
	r := openNode(t, 4, 6)
	if r.id != 4 || r.n != 6 {
		t.Errorf("Open(4, 6) is node %d of %d", r.id, r.n)
	}
}

func TestP4StatusTellsEachField(t *testing.T) {
	r := openNode(t, 1, 5)
	r.role, r.term, r.leads, r.commit = api.Leader, 8, 3, 1
	r.log = []api.Entry{{Term: 7}, {Term: 8, Command: "a"}}
	want := api.Status{Role: api.Leader, Term: 8, Leads: 3, Commit: 1, Last: 2}
	if got := r.Status(); got != want {
		t.Errorf("Status() = %+v, want %+v", got, want)
	}
}

func TestP4CommittedStopsAtCommitAndLeavesOutTheEmpty(t *testing.T) {
	r := openNode(t, 0, 3)
	for _, command := range []string{"", "b", "a", "", "", "b", ""} {
		r.log = append(r.log, api.Entry{Term: 1, Command: command})
	}
	for commit, want := range [][]string{{}, {}, {"b"}, {"b", "a"}, {"b", "a"}, {"b", "a"}, {"b", "a", "b"}, {"b", "a", "b"}} {
		r.commit = commit
		if got := r.Committed(); !slices.Equal(got, want) {
			t.Errorf("commit %d: Committed() = %q, want %q", commit, got, want)
		}
	}
}

func TestP4CommittedOfAFullLog(t *testing.T) {
	r := openNode(t, 0, 3)
	var want []string
	for i := range api.MaxLog {
		want = append(want, strconv.Itoa(i))
		r.log = append(r.log, api.Entry{Term: 1, Command: want[i]})
	}
	r.commit = api.MaxLog
	if got := r.Committed(); !slices.Equal(got, want) {
		t.Errorf("Committed() = %q", got)
	}
}

func TestP2CommittedAnswersNewMemory(t *testing.T) {
	r := openNode(t, 0, 3)
	r.log = []api.Entry{{Term: 1, Command: "a"}, {Term: 1, Command: "b"}, {Term: 1, Command: "c"}}
	r.commit = 3
	one, other := r.Committed(), r.Committed()
	for i := range cap(one) {
		one[:cap(one)][i] = "z"
	}
	for _, l := range [][]string{other, r.Committed()} {
		if !slices.Equal(l, []string{"a", "b", "c"}) {
			t.Errorf("another answer is now %q", l)
		}
	}
}

// The pause can only let a call that takes no lock slip through unseen; it cannot fail one that takes it.
func TestCallsWaitForTheNodesLock(t *testing.T) {
	for name, call := range map[string]func(*Node){
		"Patience":  func(r *Node) { r.Patience(5) },
		"Saved":     func(r *Node) { r.Saved() },
		"Status":    func(r *Node) { r.Status() },
		"Committed": func(r *Node) { r.Committed() },
	} {
		r := openNode(t, 0, 3)
		r.mu.Lock()
		done := make(chan bool)
		go func() {
			call(r)
			close(done)
		}()
		select {
		case <-done:
			t.Errorf("%s does not wait for the lock", name)
		case <-time.After(20 * time.Millisecond):
		}
		r.mu.Unlock()
		<-done
	}
}

func TestANodeMayBeAskedBySeveralAtOnce(t *testing.T) {
	r := openNode(t, 0, 3)
	var all sync.WaitGroup
	for ticks := 1; ticks <= api.MaxTicks; ticks++ {
		all.Go(func() {
			r.Patience(ticks)
			r.Patience(0)
			r.Saved()
			r.Status()
			r.Committed()
		})
	}
	all.Wait()
	if r.patience < 1 || r.patience > api.MaxTicks {
		t.Errorf("the patience is %d", r.patience)
	}
}
