package quorum_test

import (
	"math/rand"
	"reflect"
	"testing"

	"quorum/api"
	"quorum/quorum"
)

func pick(random *rand.Rand, l ...int) int { return l[random.Intn(len(l))] }

// anyMessage is often sound, and near to what nodes of few entries and low terms tell one another.
func anyMessage(random *rand.Rand, n int) api.Message {
	number := func() int {
		if random.Intn(60) == 0 {
			return pick(random, append(farNumbers, -1, api.MaxTerm, api.MaxTerm+1)...)
		}
		return random.Intn(6)
	}
	m := api.Message{
		Kind: random.Intn(6), From: random.Intn(n), To: random.Intn(n),
		Term: number(), Index: number(), LogTerm: random.Intn(4), Commit: number(), Granted: random.Intn(2) == 0,
	}
	term := max(1, m.LogTerm)
	for range random.Intn(5) {
		m.Entries = append(m.Entries, api.Entry{Term: term, Command: string(rune('a' + random.Intn(3)))})
		term += random.Intn(2)
	}
	return m
}

// checkSane asks for what no message may break.
func checkSane(t *testing.T, id, n int, r *quorum.Node, before api.Status, committed []string) {
	t.Helper()
	saved, s := r.Saved(), r.Status()
	if _, e := quorum.Restart(id, n, saved); e != api.OK {
		t.Errorf("Restart with %+v = %d", saved, e)
	}
	if s.Term < before.Term || s.Commit < before.Commit || s.Commit > s.Last {
		t.Errorf("from %+v to %+v", before, s)
	}
	if (s.Role == api.Leader) != (s.Leads == id) {
		t.Errorf("node %d: %+v", id, s)
	}
	if after := r.Committed(); len(after) < len(committed) || len(committed) > 0 && !reflect.DeepEqual(after[:len(committed)], committed) {
		t.Errorf("committed was %q and is %q", committed, after)
	}
}

func TestP1AnyMessagesAreTaken(t *testing.T) {
	random := rand.New(rand.NewSource(5))
	for range 400 {
		n := 1 + random.Intn(api.MaxNodes)
		id := random.Intn(n)
		r, twin := mustOpen(t, id, n), mustOpen(t, id, n)
		r.Patience(3)
		twin.Patience(3)
		for range 60 {
			before, committed := r.Status(), r.Committed()
			if random.Intn(3) == 0 {
				checkSent(t, r.Tick(), twin.Tick()...)
			} else {
				m := anyMessage(random, n)
				checkSent(t, r.Step(m), twin.Step(m)...)
			}
			checkSane(t, id, n, r, before, committed)
		}
		if !reflect.DeepEqual(r.Saved(), twin.Saved()) || r.Status() != twin.Status() {
			t.Errorf("told the same, one is %+v, the other %+v", r.Status(), twin.Status())
		}
	}
}

// Messages are told late, twice or never, and nodes stop and start again.
func TestP5NoTwoLeadInOneTerm(t *testing.T) {
	random := rand.New(rand.NewSource(11))
	elections := 0
	for range 150 {
		n := 2 + random.Intn(api.MaxNodes-1)
		leads := map[int]int{}
		var nodes []*quorum.Node
		for id := range n {
			nodes = append(nodes, mustOpen(t, id, n))
			nodes[id].Patience(2 + random.Intn(8))
		}
		var mail []api.Message
		for range 400 {
			id := random.Intn(n)
			switch what := random.Intn(40); {
			case what == 0:
				nodes[id] = mustRestart(t, id, n, nodes[id].Saved())
			case what < 8 || len(mail) == 0:
				mail = append(mail, nodes[id].Tick()...)
			default:
				at := random.Intn(len(mail))
				id = mail[at].To
				told := nodes[id].Step(mail[at])
				if random.Intn(5) > 0 {
					mail = append(mail[:at], mail[at+1:]...)
				}
				mail = append(mail, told...)
			}
			s := nodes[id].Status()
			if s.Role != api.Leader {
				continue
			}
			if other, ok := leads[s.Term]; ok && other != id {
				t.Fatalf("nodes %d and %d lead in the term %d", other, id, s.Term)
			}
			leads[s.Term] = id
		}
		elections += len(leads)
	}
	if elections < 100 {
		t.Errorf("only %d elections were won", elections)
	}
}

func TestP5OneLeadsInTimeIfPatiencesDiffer(t *testing.T) {
	for n := 1; n <= api.MaxNodes; n++ {
		var nodes []*quorum.Node
		for id := range n {
			nodes = append(nodes, mustOpen(t, id, n))
			nodes[id].Patience(5 + 5*((id+3)%n))
		}
		for range 200 {
			for _, r := range nodes {
				for mail := r.Tick(); len(mail) > 0; mail = mail[1:] {
					mail = append(mail, nodes[mail[0].To].Step(mail[0])...)
				}
			}
		}
		leader := nodes[0].Status().Leads
		for id, r := range nodes {
			s := r.Status()
			if s.Leads != leader || leader < 0 || s.Term != 1 || (s.Role == api.Leader) != (id == leader) {
				t.Errorf("%d nodes: node %d: %+v", n, id, s)
			}
		}
	}
}
