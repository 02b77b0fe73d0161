package typing

import (
	"loanword/api"
	"loanword/types"
)

// known is the nodes of a file, their parents, and, as far as they are told yet, the types of those that are expressions.
type known struct {
	nodes []api.Node
	up    []int
	of    []api.Type
}

// isPlace tells whether node n is a place expression.
func (k known) isPlace(n int) bool {
	switch x := k.nodes[n]; x.Kind {
	case api.NVar:
		return true
	case api.NDot, api.NDeref:
		return k.isPlace(x.L[0])
	}
	return false
}

// through tells what kinds of references the place expression n goes through.
func (k known) through(n int) (reference, shared bool) {
	for k.nodes[n].Kind != api.NVar {
		child := k.nodes[n].L[0]
		if t := k.of[child]; k.nodes[n].Kind == api.NDeref && t.Kind == api.TyRef {
			reference = true
			shared = shared || !t.Mut
		}
		n = child
	}
	return reference, shared
}

// isOpen tells whether n is a place expression that goes through no shared reference, so that what stands there may be changed.
func (k known) isOpen(n int) bool {
	if !k.isPlace(n) {
		return false
	}
	_, shared := k.through(n)
	return !shared
}

// moves tells whether n is a place expression out of which a value is moved.
func (k known) moves(n int) bool {
	return k.isPlace(n) && k.givesValue(n) && !types.Copies(k.of[n])
}

// givesValue tells whether a value is asked of the expression n. Who has an expression and asks none of it goes to it as to a place.
func (k known) givesValue(n int) bool {
	switch x := k.nodes[k.up[n]]; x.Kind {
	case api.NNeg, api.NNot, api.NBin, api.NCall, api.NInit, api.NBox, api.NReturn, api.NPrint, api.NLet, api.NIf, api.NWhile:
		return true
	case api.NAssign:
		return n == x.L[1]
	}
	return false
}
