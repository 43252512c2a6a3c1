package quorum

import "quorum/api"

// nodeSet is an array, so that a copy is a set of its own.
type nodeSet [api.MaxNodes]bool

func (s nodeSet) with(id int) nodeSet {
	s[id] = true
	return s
}

func (s nodeSet) size() int {
	count := 0
	for _, in := range s {
		if in {
			count++
		}
	}
	return count
}

func (r *Node) isMajority(count int) bool {
	return count > r.n/2
}
