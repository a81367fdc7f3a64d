package dkg

import (
	"sandglass/api"
	"sandglass/feldman"
)

// check is one of the things that Check looks at.
type check int

// The checks stand in the order in which they are made, since one leans on those ahead of it: it looks only where these hold.
const (
	committee check = iota // n and t may be
	place                  // the node is one of n
	batch                  // the Commits are as many as may be, each of t + 1 points
	nodes                  // n nodes have values
	values                 // the node has as many as there are Commits
	proofs                 // each of these is the one that the dealer is bound to
	checks                 // how many there are
)

// asked is what Check is asked of.
type asked struct {
	n, t, node int
	deal       api.Deal
}

// holds tells whether it is so, where the checks ahead hold.
func (a asked) holds(c check) bool {
	switch c {
	case committee:
		return isCommittee(a.n, a.t)
	case place:
		return a.node >= 1 && a.node <= a.n
	case batch:
		return isBatch(a.t, a.deal.Commits)
	case nodes:
		return len(a.deal.Values) == a.n
	case values:
		return len(a.mine()) == len(a.deal.Commits)
	case proofs:
		return a.areBound()
	}
	return false
}

// mine answers the node's values.
func (a asked) mine() []api.Num { return a.deal.Values[a.node-1] }

// areBound tells whether the Commits verify each of the node's values.
func (a asked) areBound() bool {
	for i, v := range a.mine() {
		if !feldman.Verify(a.deal.Commits[i], api.Share{At: a.node, V: v}) {
			return false
		}
	}
	return true
}

// isCommittee tells whether there may be n nodes, t of them wrong.
func isCommittee(n, t int) bool { return isFault(t) && n >= 3*t+1 && n <= api.MaxNodes }

// isFault tells whether t nodes may be wrong.
func isFault(t int) bool { return t >= 0 && t <= api.MaxFault }

// isBatch tells whether there may be as many polynomials, or Commits of them, each with t + 1 items.
func isBatch[T any](t int, l [][]T) bool {
	if len(l) < 1 || len(l) > api.MaxBatch {
		return false
	}
	for _, items := range l {
		if len(items) != t+1 {
			return false
		}
	}
	return true
}
