package quorum_test

import (
	"math/rand"
	"reflect"
	"strings"
	"testing"

	"quorum/api"
	"quorum/quorum"
)

func pick(random *rand.Rand, l ...int) int { return l[random.Intn(len(l))] }

// anyMessage is often sound, and near to what nodes of few entries and low terms tell one another.
func anyMessage(random *rand.Rand, n int) api.Message {
	number := func() int {
		if random.Intn(60) == 0 {
			return pick(random, append(farNumbers, -1, api.MaxTerm, api.MaxTerm+1)...)
		}
		return random.Intn(6)
	}
	m := api.Message{
		Kind: random.Intn(6), From: random.Intn(n), To: random.Intn(n),
		Term: number(), Index: number(), LogTerm: random.Intn(4), Commit: number(), Granted: random.Intn(2) == 0,
	}
	term := max(1, m.LogTerm)
	for range random.Intn(5) {
		m.Entries = append(m.Entries, api.Entry{Term: term, Command: string(rune('a' + random.Intn(3)))})
		term += random.Intn(2)
	}
	return m
}

// checkSane asks for what no message may break.
func checkSane(t *testing.T, id, n int, r *quorum.Node, before api.Status, committed []string) {
	t.Helper()
	saved, s := r.Saved(), r.Status()
	if _, e := quorum.Restart(id, n, saved); e != api.OK {
		t.Errorf("Restart with %+v = %d", saved, e)
	}
	if s.Term < before.Term || s.Commit < before.Commit || s.Commit > s.Last {
		t.Errorf("from %+v to %+v", before, s)
	}
	if (s.Role == api.Leader) != (s.Leads == id) {
		t.Errorf("node %d: %+v", id, s)
	}
	if after := r.Committed(); len(after) < len(committed) || len(committed) > 0 && !reflect.DeepEqual(after[:len(committed)], committed) {
		t.Errorf("committed was %q and is %q", committed, after)
	}
}

func anyCommand(random *rand.Rand) string {
	return strings.Repeat(string(rune('a'+random.Intn(3))), pick(random, 0, 1, 2, 20, 21))
}

// checkProposed asks that two nodes which were told the same answer the same, and with an error nothing else.
func checkProposed(t *testing.T, r, twin *quorum.Node, command string) {
	t.Helper()
	number, sent, e := r.Propose(command)
	twinNumber, twinSent, twinErrno := twin.Propose(command)
	checkSent(t, sent, twinSent...)
	if number != twinNumber || e != twinErrno {
		t.Errorf("Propose(%q) = %d, %d and %d, %d", command, number, e, twinNumber, twinErrno)
	}
	if last := r.Status().Last; e == api.OK && number != last || e != api.OK && (number != 0 || sent != nil) {
		t.Errorf("Propose(%q) = %d, %+v, %d with the last %d", command, number, sent, e, last)
	}
}

func TestP1AnyCallsAreTaken(t *testing.T) {
	random := rand.New(rand.NewSource(5))
	for range 400 {
		n := 1 + random.Intn(api.MaxNodes)
		id := random.Intn(n)
		r, twin := mustOpen(t, id, n), mustOpen(t, id, n)
		r.Patience(3)
		twin.Patience(3)
		for range 60 {
			before, committed := r.Status(), r.Committed()
			switch random.Intn(10) {
			case 0, 1, 2:
				checkSent(t, r.Tick(), twin.Tick()...)
			case 3:
				checkProposed(t, r, twin, anyCommand(random))
			default:
				m := anyMessage(random, n)
				checkSent(t, r.Step(m), twin.Step(m)...)
			}
			checkSane(t, id, n, r, before, committed)
		}
		if !reflect.DeepEqual(r.Saved(), twin.Saved()) || r.Status() != twin.Status() {
			t.Errorf("told the same, one is %+v, the other %+v", r.Status(), twin.Status())
		}
	}
}
