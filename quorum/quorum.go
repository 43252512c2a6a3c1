// Package quorum: a node of several that keep one log: see DOC.md.
package quorum

import (
	"sync"

	"quorum/api"
)

// none stands where a node's number might: no vote, or nobody that leads.
const none = -1

const firstPatience = 10

// Node is one of them.
type Node struct {
	// Several may ask a node at once, so every call holds it for as long as it reads or writes what stands below.
	mu sync.Mutex

	id, n int

	term, vote int
	log        []api.Entry

	// Lost when the node stops: Restart sets these as at first.
	role     int
	leads    int
	commit   int
	elapsed  int
	patience int
	grants   nodeSet

	// Of each node, and of use only while this one leads: lead sets them anew.
	next, match [api.MaxNodes]int
	heard       nodeSet
}

// Open makes a node (P3).
func Open(id int, n int) (*Node, api.Errno) {
	return Restart(id, n, api.Saved{Vote: none})
}

// Restart makes a node with what it saved (P3).
func Restart(id int, n int, saved api.Saved) (*Node, api.Errno) {
	if !soundNodes(id, n) {
		return nil, api.ErrNodes
	}
	if !soundSaved(saved, n) {
		return nil, api.ErrSaved
	}
	return &Node{
		id:       id,
		n:        n,
		term:     saved.Term,
		vote:     saved.Vote,
		log:      copyEntries(saved.Log),
		role:     api.Follower,
		leads:    none,
		patience: firstPatience,
	}, api.OK
}

// Patience tells for how many ticks a node waits (P3).
func (r *Node) Patience(ticks int) api.Errno {
	if ticks < 1 || ticks > api.MaxTicks {
		return api.ErrTicks
	}
	r.mu.Lock()
	defer r.mu.Unlock()
	r.patience = ticks
	return api.OK
}

// Tick tells a node that its clock has gone on (P5).
func (r *Node) Tick() []api.Message {
	r.mu.Lock()
	defer r.mu.Unlock()
	r.elapsed++
	if r.role == api.Leader {
		return r.tickLeader()
	}
	if r.elapsed < r.patience || r.term >= api.MaxTerm {
		return nil
	}
	return r.ask()
}

// Step tells a node of a message (P5, P6).
func (r *Node) Step(m api.Message) []api.Message {
	r.mu.Lock()
	defer r.mu.Unlock()
	if !soundMessage(m, r.id, r.n) {
		return nil
	}
	switch m.Kind {
	case api.Ask:
		return r.stepAsk(m)
	case api.AskReply:
		return r.stepAskReply(m)
	case api.Vote:
		return r.stepVote(m)
	case api.VoteReply:
		return r.stepVoteReply(m)
	case api.Append:
		return r.stepAppend(m)
	default:
		return r.stepAppendReply(m)
	}
}

// Propose asks a leader to put a command into the log (P6).
func (r *Node) Propose(command string) (int, []api.Message, api.Errno) {
	if command == "" || !soundCommand(command) {
		return 0, nil, api.ErrCommand
	}
	r.mu.Lock()
	defer r.mu.Unlock()
	if r.role != api.Leader {
		return 0, nil, api.ErrRole
	}
	if r.isFull() {
		return 0, nil, api.ErrFull
	}
	r.put(command)
	return r.last(), r.spread(), api.OK
}

// Saved tells what must not be lost (P4).
func (r *Node) Saved() api.Saved {
	r.mu.Lock()
	defer r.mu.Unlock()
	return api.Saved{Term: r.term, Vote: r.vote, Log: copyEntries(r.log)}
}

// Status tells how a node is (P4).
func (r *Node) Status() api.Status {
	r.mu.Lock()
	defer r.mu.Unlock()
	return api.Status{Role: r.role, Term: r.term, Leads: r.leads, Commit: r.commit, Last: len(r.log)}
}

// Committed lists the commands that are committed (P4).
func (r *Node) Committed() []string {
	r.mu.Lock()
	defer r.mu.Unlock()
	var commands []string
	for _, e := range r.log[:r.commit] {
		if e.Command != "" {
			commands = append(commands, e.Command)
		}
	}
	return commands
}
