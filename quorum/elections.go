package quorum

import "quorum/api"

func (r *Node) follow(term, leader int) {
	r.role = api.Follower
	r.leads = leader
	if term > r.term {
		r.term = term
		r.vote = none
	}
}

func (r *Node) knowsLeader() bool {
	return r.leads != none && r.elapsed < r.patience
}

// ask finds out whether the node could win, ahead of a term that would disturb a leader that others still hear.
func (r *Node) ask() []api.Message {
	r.campaign(api.Asking)
	if r.isMajority(r.grants.size()) {
		return r.stand()
	}
	return r.request(api.Ask, r.term+1)
}

func (r *Node) stand() []api.Message {
	r.term++
	r.vote = r.id
	r.campaign(api.Candidate)
	if r.isMajority(r.grants.size()) {
		return r.lead()
	}
	return r.request(api.Vote, r.term)
}

// campaign forgets the grants of an earlier one: they were for another role or term.
func (r *Node) campaign(role int) {
	r.role = role
	r.leads = none
	r.elapsed = 0
	r.grants = nodeSet{}.with(r.id)
}

func (r *Node) request(kind, term int) []api.Message {
	m := api.Message{Kind: kind, Term: term, Index: r.last(), LogTerm: r.termOf(r.last())}
	return r.send(m, r.others()...)
}

func (r *Node) tickLeader() []api.Message {
	if r.elapsed >= r.patience {
		r.elapsed = 0
		if !r.isMajority(r.heard.with(r.id).size()) {
			r.follow(r.term, none)
			return nil
		}
		r.heard = nodeSet{}
	}
	return r.sendAppends(r.others()...)
}

func (r *Node) stepAsk(m api.Message) []api.Message {
	reply := api.Message{Kind: api.AskReply, Term: r.term}
	if m.Term > r.term && r.isAsGood(m) && !r.knowsLeader() {
		reply.Term = m.Term
		reply.Granted = true
	}
	if reply.Term == 0 {
		return nil
	}
	return r.send(reply, m.From)
}

func (r *Node) stepAskReply(m api.Message) []api.Message {
	if !m.Granted && m.Term > r.term {
		r.follow(m.Term, none)
	}
	if !m.Granted || r.role != api.Asking || m.Term != r.term+1 {
		return nil
	}
	r.grants = r.grants.with(m.From)
	if !r.isMajority(r.grants.size()) {
		return nil
	}
	return r.stand()
}

func (r *Node) stepVote(m api.Message) []api.Message {
	if m.Term > r.term {
		if r.knowsLeader() {
			return nil
		}
		r.follow(m.Term, none)
	}
	granted := m.Term == r.term && r.mayVoteFor(m.From) && r.isAsGood(m)
	if granted {
		r.vote = m.From
		r.elapsed = 0
	}
	return r.send(api.Message{Kind: api.VoteReply, Term: r.term, Granted: granted}, m.From)
}

func (r *Node) mayVoteFor(id int) bool {
	return r.role == api.Follower && (r.vote == none || r.vote == id)
}

func (r *Node) stepVoteReply(m api.Message) []api.Message {
	if m.Term > r.term {
		r.follow(m.Term, none)
	}
	if !m.Granted || r.role != api.Candidate || m.Term != r.term {
		return nil
	}
	r.grants = r.grants.with(m.From)
	if !r.isMajority(r.grants.size()) {
		return nil
	}
	return r.lead()
}
