package quorum_test

import (
	"math/rand"
	"slices"
	"strconv"
	"testing"

	"quorum/api"
	"quorum/quorum"
)

type place struct{ number, term int }

// origin is what an entry's place must settle: with the term ahead of it this settles the whole log up to there.
type origin struct {
	command string
	ahead   int
}

// longEnough for the most patient to ask, to be told of a greater term, and to ask anew, with some to spare.
const longEnough = 3*api.MaxTicks + 10

// cluster keeps what P7 says of all nodes and all times.
type cluster struct {
	t         *testing.T
	random    *rand.Rand
	nodes     []*quorum.Node
	patiences []int
	mail      []api.Message
	apart     []bool
	unrest    int // how often of a hundred times a node stops

	leads     map[int]int
	origins   map[place]origin
	committed []api.Entry
	logs      [][]api.Entry
	commits   []int

	proposed, cuts int
}

func newCluster(t *testing.T, random *rand.Rand, patiences []int) *cluster {
	n := len(patiences)
	c := &cluster{
		t: t, random: random, nodes: make([]*quorum.Node, n), patiences: patiences, apart: make([]bool, n), unrest: 1,
		leads: map[int]int{}, origins: map[place]origin{}, logs: make([][]api.Entry, n), commits: make([]int, n),
	}
	for id := range n {
		c.start(id, api.Saved{Vote: -1})
	}
	return c
}

func differing(random *rand.Rand, n int) []int {
	l := random.Perm(pick(random, api.MaxNodes, 12, api.MaxTicks))[:n]
	for id := range l {
		l[id]++
	}
	return l
}

// alike are patiences with which several often stand at once.
func alike(random *rand.Rand, n int) []int {
	var l []int
	for range n {
		l = append(l, 2+random.Intn(3))
	}
	return l
}

func (c *cluster) start(id int, saved api.Saved) {
	c.nodes[id] = mustRestart(c.t, id, len(c.nodes), saved)
	c.nodes[id].Patience(c.patiences[id])
	c.commits[id] = 0
}

// storm does one thing of many at random: messages come in any order, twice, late or never, and nodes stop and start.
func (c *cluster) storm() {
	id := c.random.Intn(len(c.nodes))
	switch what := c.random.Intn(100); {
	case what < c.unrest:
		c.start(id, c.nodes[id].Saved())
	case what < 11:
		c.part(id)
	case what < 15:
		c.propose(id)
	case what < 35 || len(c.mail) == 0:
		c.post(c.nodes[id].Tick())
	default:
		id = c.tellOne()
	}
	c.check(id)
}

// part leaves a node that leads alone, so that its log grows otherwise than those of the rest; else all are together again.
func (c *cluster) part(id int) {
	clear(c.apart)
	c.apart[id] = c.nodes[id].Status().Role == api.Leader
}

func (c *cluster) post(l []api.Message) {
	c.mail = append(c.mail, l...)
}

func (c *cluster) propose(id int) {
	number, l, e := c.nodes[id].Propose("c" + strconv.Itoa(c.proposed))
	if e != api.OK {
		return
	}
	if number != c.nodes[id].Status().Last {
		c.t.Fatalf("node %d: Propose = %d, but it is %+v", id, number, c.nodes[id].Status())
	}
	c.proposed++
	c.post(l)
}

// tellOne picks the newest more often, so that nodes get on beside all that comes late.
func (c *cluster) tellOne() int {
	at := c.random.Intn(len(c.mail))
	if c.random.Intn(4) > 0 {
		at = max(at, len(c.mail)-1-c.random.Intn(6))
	}
	m := c.mail[at]
	if c.random.Intn(8) > 0 {
		c.mail = slices.Delete(c.mail, at, at+1)
	}
	if !c.apart[m.From] && !c.apart[m.To] {
		c.post(c.nodes[m.To].Step(m))
	}
	return m.To
}

func (c *cluster) check(id int) {
	c.t.Helper()
	status, log := c.nodes[id].Status(), c.nodes[id].Saved().Log
	c.checkLeader(id, status)
	c.checkLog(id, log)
	c.checkCommit(id, status.Commit, log)
	c.checkStays()
}

func (c *cluster) checkLeader(id int, s api.Status) {
	c.t.Helper()
	if s.Role != api.Leader {
		return
	}
	if other, ok := c.leads[s.Term]; ok && other != id {
		c.t.Fatalf("nodes %d and %d lead in the term %d", other, id, s.Term)
	}
	c.leads[s.Term] = id
}

func (c *cluster) checkLog(id int, log []api.Entry) {
	c.t.Helper()
	ahead := 0
	for i, e := range log {
		own := origin{command: e.Command, ahead: ahead}
		known, ok := c.origins[place{number: i + 1, term: e.Term}]
		if ok && known != own {
			c.t.Fatalf("the entry %d of the term %d is %+v and, at node %d, %+v", i+1, e.Term, known, id, own)
		}
		c.origins[place{number: i + 1, term: e.Term}] = own
		ahead = e.Term
	}
	if !slices.Equal(log[:min(len(log), len(c.logs[id]))], c.logs[id]) {
		c.cuts++
	}
	c.logs[id] = log
}

func (c *cluster) checkCommit(id, commit int, log []api.Entry) {
	c.t.Helper()
	if commit < c.commits[id] {
		c.t.Fatalf("node %d: the commit goes from %d to %d", id, c.commits[id], commit)
	}
	c.commits[id] = commit
	both := min(commit, len(c.committed))
	if !slices.Equal(log[:both], c.committed[:both]) {
		c.t.Fatalf("node %d has committed %+v, others %+v", id, log[:both], c.committed[:both])
	}
	c.committed = append(c.committed, log[both:commit]...)
	if got := c.nodes[id].Committed(); !slices.Equal(got, commandsOf(log[:commit])) {
		c.t.Fatalf("node %d: Committed() = %q, its log is %+v", id, got, log[:commit])
	}
}

// checkStays asks that a majority has what is committed, as no other leader could be held to it.
func (c *cluster) checkStays() {
	c.t.Helper()
	have := 0
	for _, log := range c.logs {
		if len(log) >= len(c.committed) && slices.Equal(log[:len(c.committed)], c.committed) {
			have++
		}
	}
	if have <= len(c.nodes)/2 {
		c.t.Fatalf("only %d of %d have %+v", have, len(c.nodes), c.committed)
	}
}

func commandsOf(entries []api.Entry) []string {
	var l []string
	for _, e := range entries {
		if e.Command != "" {
			l = append(l, e.Command)
		}
	}
	return l
}

func TestP7InAStormNodesAgree(t *testing.T) {
	random := rand.New(rand.NewSource(17))
	led, committed, cuts := 0, 0, 0
	for range 150 {
		n := 1 + random.Intn(api.MaxNodes)
		c := newCluster(t, random, differing(random, n))
		if random.Intn(2) == 0 {
			c = newCluster(t, random, alike(random, n))
		}
		c.unrest = 1 + random.Intn(10)
		for range 2000 {
			c.storm()
		}
		led += len(c.leads)
		committed += len(commandsOf(c.committed))
		cuts += c.cuts
	}
	// A storm in which too little happens would show nothing.
	if led < 1000 || committed < 800 || cuts < 30 {
		t.Errorf("%d leaders, %d commands committed, %d logs cut off", led, committed, cuts)
	}
}

func TestP7AVoteHoldsWhenTheNodeStops(t *testing.T) {
	for _, again := range []int{0, 1} {
		voter := mustOpen(t, 2, 3)
		checkSent(t, voter.Step(vote(0, 2, 1, 0, 0)), voteReply(2, 0, 1, true))
		voter = mustRestart(t, 2, 3, voter.Saved())
		checkSent(t, voter.Step(vote(again, 2, 1, 0, 0)), voteReply(2, again, 1, again == 0))
	}
}

// A majority may have entries of an earlier term and lose them to a leader that has not got them.
func TestP7EntriesThatALaterLeaderCutsOffWereNotCommitted(t *testing.T) {
	c := newCluster(t, rand.New(rand.NewSource(19)), []int{2, 2, 2, 2, 2})
	c.elect(0, 1, 2)
	c.propose(0)
	c.propose(0)
	c.mail = nil
	c.elect(4, 2, 3)
	c.elect(0, 1, 2)
	c.post(c.nodes[0].Tick())
	c.deliver(func(m api.Message) bool {
		return m.To == 0 || m.To < 3 && c.nodes[m.To].Status().Last == 0
	})
	checkStatus(t, c.nodes[0], isLeading(0, 3, 0, 4))
	for _, r := range c.nodes[1:3] {
		checkStatus(t, r, api.Status{Role: api.Follower, Term: 3, Leads: 0, Last: 3})
	}
	c.elect(4, 1, 2, 3)
	c.post(c.nodes[4].Tick())
	c.deliver(func(m api.Message) bool { return m.To != 0 })
	checkStatus(t, c.nodes[4], isLeading(4, 4, 2, 2))
	for _, r := range c.nodes[1:4] {
		checkStatus(t, r, api.Status{Role: api.Follower, Term: 4, Leads: 4, Last: 2})
	}
}

// calm ticks each node so many times, by turns, and tells all that is sent, in any order, ahead of the next tick.
func (c *cluster) calm(rounds int) {
	for range rounds {
		for _, id := range c.random.Perm(len(c.nodes)) {
			c.post(c.nodes[id].Tick())
			c.check(id)
			c.deliver(everyMessage)
		}
	}
}

func everyMessage(api.Message) bool { return true }

// deliver tells the messages that are chosen, and what is sent upon them; the rest are lost.
func (c *cluster) deliver(chosen func(api.Message) bool) {
	c.t.Helper()
	for len(c.mail) > 0 {
		at := c.random.Intn(len(c.mail))
		m := c.mail[at]
		c.mail = slices.Delete(c.mail, at, at+1)
		if chosen(m) {
			c.post(c.nodes[m.To].Step(m))
			c.check(m.To)
		}
	}
}

// elect stops and starts the node and its voters, so that they know no leader; what the node sends as one is lost.
func (c *cluster) elect(id int, voters ...int) {
	c.t.Helper()
	for _, at := range append(voters, id) {
		c.start(at, c.nodes[at].Saved())
	}
	for ticks := 0; c.nodes[id].Status().Role != api.Leader; ticks++ {
		if ticks > 50 {
			c.t.Fatalf("node %d does not win: %+v", id, c.nodes[id].Status())
		}
		c.post(c.nodes[id].Tick())
		c.deliver(func(m api.Message) bool {
			return m.Kind < api.Append && (m.To == id || slices.Contains(voters, m.To))
		})
	}
	c.check(id)
}

// leader asks that one leads and the others know it, but for one whose patience ended just now, and tells which.
func (c *cluster) leader() int {
	c.t.Helper()
	lead := slices.IndexFunc(c.nodes, func(r *quorum.Node) bool { return r.Status().Role == api.Leader })
	if lead < 0 {
		c.t.Fatalf("patiences %v: nobody leads", c.patiences)
	}
	first := c.nodes[lead].Status()
	for id, r := range c.nodes {
		s := r.Status()
		follows := s.Role == api.Follower && s.Leads == lead || s.Role == api.Asking
		if id != lead && !follows || s.Term != first.Term {
			c.t.Fatalf("patiences %v: node %d leads, but node %d is %+v", c.patiences, lead, id, s)
		}
	}
	return lead
}

// checkProposals asks that what the leader takes is committed at all behind one more round.
func (c *cluster) checkProposals(count int) {
	c.t.Helper()
	id := c.leader()
	before := c.proposed
	for range count {
		c.propose(id)
		c.check(id)
		c.deliver(everyMessage)
	}
	took := c.proposed - before
	if took != count && c.nodes[id].Status().Last != api.MaxLog {
		c.t.Fatalf("the leader took %d of %d: %+v", took, count, c.nodes[id].Status())
	}
	c.calm(1)
	if took == 0 {
		return
	}
	for at, r := range c.nodes {
		got := r.Committed()
		if s := r.Status(); s.Commit != s.Last || got[len(got)-1] != "c"+strconv.Itoa(c.proposed-1) {
			c.t.Fatalf("node %d of %d: %+v, committed %q", at, len(c.nodes), s, got)
		}
	}
}

func TestP8OneLeadsInTimeAndItsProposalsAreCommittedAtAll(t *testing.T) {
	random := rand.New(rand.NewSource(23))
	for range 10 {
		for n := 1; n <= api.MaxNodes; n++ {
			c := newCluster(t, random, differing(random, n))
			c.calm(longEnough)
			first := c.leader()
			c.checkProposals(20)
			c.calm(100)
			if c.leader() != first || c.nodes[first].Status().Term != 1 {
				t.Errorf("node %d led in the term 1, and now: %+v", first, c.nodes[first].Status())
			}
			c.checkProposals(60)
			if s := c.nodes[first].Status(); s.Commit != api.MaxLog {
				t.Errorf("the log is full, but: %+v", s)
			}
		}
	}
}

func TestP8TermsMayBeGreat(t *testing.T) {
	random := rand.New(rand.NewSource(29))
	for n := 1; n <= api.MaxNodes; n++ {
		c := newCluster(t, random, differing(random, n))
		for id := range n {
			c.start(id, api.Saved{Term: api.MaxTerm - 400, Vote: -1})
		}
		c.calm(longEnough)
		c.checkProposals(5)
	}
}

func TestP8CalmBehindAStorm(t *testing.T) {
	random := rand.New(rand.NewSource(31))
	for range 120 {
		c := newCluster(t, random, differing(random, 1+random.Intn(api.MaxNodes)))
		for range 1000 {
			c.storm()
		}
		c.apart = make([]bool, len(c.nodes))
		if random.Intn(2) == 0 {
			c.mail = nil
		}
		c.deliver(everyMessage)
		c.calm(longEnough)
		c.checkProposals(5)
	}
}

func TestP8TheNextLeadsWhenOneStops(t *testing.T) {
	random := rand.New(rand.NewSource(37))
	for n := 3; n <= api.MaxNodes; n++ {
		c := newCluster(t, random, differing(random, n))
		for range 10 {
			c.calm(longEnough)
			id := c.leader()
			c.checkProposals(2)
			c.start(id, c.nodes[id].Saved())
		}
	}
}
