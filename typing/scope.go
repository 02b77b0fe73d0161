package typing

import "loanword/api"

// behind answers the first node behind n and all below it.
func behind(nodes []api.Node, n int) int {
	for l := nodes[n].L; len(l) > 0; l = nodes[n].L {
		n = l[len(l)-1]
	}
	return n + 1
}

// bodyOf answers the block of the function at the node fn.
func bodyOf(nodes []api.Node, fn int) int {
	l := nodes[fn].L
	return l[len(l)-1]
}

// fnAt answers which function node n is, or is within.
func (k known) fnAt(sigs []api.Sig, n int) (int, bool) {
	for fn, s := range sigs {
		if s.Node <= n && n < behind(k.nodes, s.Node) {
			return fn, true
		}
	}
	return 0, false
}

// inScope answers which of a function's variables are in scope at node n of its body: each from behind its node to the end of the parent's, be that a block or, of a parameter, the function.
func (k known) inScope(vars []api.Var, n int) []int {
	var l []int
	for v, x := range vars {
		if behind(k.nodes, x.Node) <= n && n < behind(k.nodes, k.up[x.Node]) {
			l = append(l, v)
		}
	}
	return l
}
