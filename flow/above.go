package flow

import "loanword/api"

const wordBits = 64

// row is a set of points.
type row [api.MaxPoints / wordBits]uint64

func (r row) has(q int) bool { return r[q/wordBits]>>(q%wordBits)&1 != 0 }

func (r *row) put(q int) { r[q/wordBits] |= 1 << (q % wordBits) }

func (r *row) take(q int) { r[q/wordBits] &^= 1 << (q % wordBits) }

func (r *row) meet(other row) {
	for k, word := range other {
		r[k] &= word
	}
}

func everything() row {
	var r row
	for k := range r {
		r[k] = ^uint64(0)
	}
	return r
}

// points answers what it has, rising.
func (r row) points() []int {
	var l []int
	for q := range api.MaxPoints {
		if r.has(q) {
			l = append(l, q)
		}
	}
	return l
}

// rows says of each point what lies above it; of one that is not reached nothing.
type rows [api.MaxPoints]row

// above answers the greatest rows in which above each point lies no more than it and what lies above all that is ahead of it: these are the points on all ways.
func (n net) above() *rows {
	order, _ := n.walk()
	before := n.turned()
	var r rows
	for _, q := range order {
		r[q] = everything()
	}
	r[0] = row{}
	r[0].put(0)
	rest, settled := order[1:], 0
settling:
	for len(rest) > 0 {
		for _, q := range rest {
			if r.meet(q, before[q]...) {
				settled = 0
				continue
			}
			if settled++; settled == len(rest) {
				break settling
			}
		}
	}
	return &r
}

// meet lays down that above q lie just q and what lies above all of the points ahead of it that are reached, and tells whether more was said to.
func (r *rows) meet(q int, before ...int) bool {
	met := everything()
	for _, p := range before {
		if r[p] != (row{}) {
			met.meet(r[p])
		}
	}
	met.put(q)
	changed := met != r[q]
	r[q] = met
	return changed
}

// right answers the point right above q: what lies above that is all that lies above q, but q.
func (r *rows) right(q int) int {
	rest := r[q]
	rest.take(q)
	for _, p := range rest.points() {
		if r[p] == rest {
			return p
		}
	}
	return -1
}
