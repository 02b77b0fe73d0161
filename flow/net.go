package flow

import (
	"iter"
	"slices"

	"loanword/api"
	"loanword/graph"
)

// net is of each point a list of points to which one goes from there: its successors, in order.
type net [][]int

// netOf answers the net of the graph fn, if the unit may be and has these points there.
func netOf(u api.Unit, fn int, points ...int) (net, api.Errno) {
	if fn < 0 || fn >= len(u.Fns) || !graph.May(u) {
		return nil, api.ErrArg
	}
	var n net
	for _, p := range u.Fns[fn].Points {
		n = append(n, successors(p))
	}
	if !n.has(points...) {
		return nil, api.ErrArg
	}
	return n, api.OK
}

// successors answers the points that may come behind p. Layer 10 would look at the whole unit anew for each point; here the unit is known to be one that may be.
func successors(p api.Point) []int {
	switch {
	case p.Op == api.Return:
		return nil
	case p.Op == api.Branch && p.Else != p.Next:
		return []int{p.Next, p.Else}
	}
	return []int{p.Next}
}

// has tells whether all of these are points.
func (n net) has(points ...int) bool {
	for _, q := range points {
		if q < 0 || q >= len(n) {
			return false
		}
	}
	return true
}

// turned answers the net in which one goes the other way, each list rising.
func (n net) turned() net {
	back := make(net, len(n))
	for from, l := range n {
		for _, to := range l {
			back[to] = append(back[to], from)
		}
	}
	return back
}

// visit is a point to which one comes, and the one from which one comes there.
type visit struct {
	at, ahead int
}

// each goes to all that is reached from one point by points on which one may stand, and tells from where it came (-1: nowhere, it began there). It goes to nearer ones first, and among those that are equally near to the one to which the way leads that is first by number: so the visits lead back along just that way.
func (n net) each(from int, may func(q int) bool) iter.Seq2[int, int] {
	return func(yield func(at, ahead int) bool) {
		var queue []visit
		came := make([]bool, len(n))
		come := func(x visit) {
			if !came[x.at] && may(x.at) {
				came[x.at] = true
				queue = append(queue, x)
			}
		}
		come(visit{from, -1})
		for len(queue) > 0 {
			x := queue[0]
			queue = queue[1:]
			if !yield(x.at, x.ahead) {
				return
			}
			for _, to := range slices.Sorted(slices.Values(n[x.at])) {
				come(visit{to, x.at})
			}
		}
	}
}

// reached answers all that is reached from one point by points on which one may stand, rising.
func (n net) reached(from int, may func(q int) bool) []int {
	var l []int
	for q := range n.each(from, may) {
		l = append(l, q)
	}
	slices.Sort(l)
	return l
}

// way answers the shortest way by points on which one may stand, the first one by number; if there is one.
func (n net) way(from, to int, may func(q int) bool) ([]int, bool) {
	aheads := make([]int, len(n))
	for q, ahead := range n.each(from, may) {
		aheads[q] = ahead
		if q == to {
			return wayBack(aheads, to), true
		}
	}
	return nil, false
}

// wayBack answers the way to a point, where of each point on it the one ahead is known.
func wayBack(aheads []int, to int) []int {
	var way []int
	for q := to; q >= 0; q = aheads[q] {
		way = append(way, q)
	}
	slices.Reverse(way)
	return way
}
