package tree

import (
	"iter"
	"slices"

	"loanword/api"
)

// Walk goes over the nodes of t, each with how many are above it; of one that may not be over nothing.
func Walk(t api.Tree) iter.Seq2[int, int] {
	if !May(t) {
		return func(func(int, int) bool) {}
	}
	// Made here and now: what is told later must not hang on what becomes of t.
	return slices.All(levels(t))
}

// Deep tells how deep t is; 0 of one that may not be.
func Deep(t api.Tree) int {
	deep := 0
	for _, above := range Walk(t) {
		deep = max(deep, above+1)
	}
	return deep
}

// Up answers the parent of each node.
func Up(t api.Tree) ([]int, api.Errno) {
	if !May(t) {
		return nil, api.ErrArg
	}
	up := make([]int, len(t.Nodes))
	up[0] = -1
	for parent, child := range meets(t) {
		up[child] = parent
	}
	return up, api.OK
}

// levels tells of each node how many are above it, of a tree that is numbered as one meets its nodes.
func levels(t api.Tree) []int {
	above := make([]int, len(t.Nodes))
	for parent, child := range meets(t) {
		above[child] = above[parent] + 1
	}
	return above
}

// firstStray answers the parent of the first child that does not have the next number; where there is none, the first node that no child is.
func firstStray(t api.Tree) int {
	next := 1
	for parent, child := range meets(t) {
		if child != next || child >= len(t.Nodes) {
			return parent
		}
		next++
	}
	return next
}

// stand is a node that the walk has gone down from, and how many of its children it has met.
type stand struct {
	node, met int
}

// meets goes down from node 0, and tells each child, after its parent, ahead of what is below it.
// Whoever ranges over it stops at the first child that is no node, or was met before: the walk would go astray from there.
func meets(t api.Tree) iter.Seq2[int, int] {
	return func(yield func(int, int) bool) {
		way := []stand{{node: 0}}
		for len(way) > 0 {
			here := &way[len(way)-1]
			l := t.Nodes[here.node].L
			if here.met == len(l) {
				way = way[:len(way)-1]
				continue
			}
			child := l[here.met]
			here.met++
			if !yield(here.node, child) {
				return
			}
			way = append(way, stand{node: child})
		}
	}
}
