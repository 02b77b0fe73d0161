package loan

import (
	"iter"
	"slices"

	"loanword/api"
	"loanword/bits"
)

const wordBits = 64

// spot is a loan, and a point at which it is in force.
type spot struct{ loan, at int }

// force says of each point at which loans are in force which ones.
type force map[int]api.Row

func (f force) has(x spot) bool { return bits.Get(f[x.at], x.loan) }

// put lays x, whose loan is one of so many, into f.
func (f force) put(x spot, loans int) {
	if _, is := f[x.at]; !is {
		f[x.at], _ = bits.New(loans)
	}
	put(f[x.at], x.loan)
}

func put(r api.Row, k int) { r.Words[k/wordBits] |= 1 << (k % wordBits) }

// onward tells where a loan must be in force that comes out of a point: at the successors that its region's row has, rising.
func (s scene) onward(rows []api.Row, loan, from int) iter.Seq[int] {
	row := rows[s.loans[loan].Region]
	return func(yield func(to int) bool) {
		for _, to := range s.next[from] {
			if bits.Get(row, to) && !yield(to) {
				return
			}
		}
	}
}

// least answers where these loans are in force at the least, if these are the regions' rows.
func (s scene) least(rows []api.Row, loans ...int) force {
	f := force{}
	var work stack[spot]
	goOn := func(loan, from int) {
		for to := range s.onward(rows, loan, from) {
			if x := (spot{loan, to}); !f.has(x) {
				f.put(x, len(s.loans))
				work.put(x)
			}
		}
	}
	for _, loan := range loans {
		goOn(loan, s.loans[loan].At)
	}
	for x, ok := work.take(); ok; x, ok = work.take() {
		if !s.kills(x.at, x.loan) {
			goOn(x.loan, x.at)
		}
	}
	return f
}

// must answers the points at which the loan must be in force, if it is so at those of this range.
func (s scene) must(rows []api.Row, in api.Row, loan int) api.Row {
	must, _ := bits.New(len(s.points))
	goOn := func(from int) {
		for to := range s.onward(rows, loan, from) {
			put(must, to)
		}
	}
	goOn(s.loans[loan].At)
	for q := range bits.Each(in) {
		if !s.kills(q, loan) {
			goOn(q)
		}
	}
	return must
}

// ranges are the rows of points, one a loan, that say what f says.
func (s scene) ranges(f force) []api.Row {
	var l []api.Row
	for range s.loans {
		r, _ := bits.New(len(s.points))
		l = append(l, r)
	}
	for q := range s.points {
		for loan := range bits.Each(f[q]) {
			put(l[loan], q)
		}
	}
	return l
}

// forceOf is what ranges say.
func (s scene) forceOf(ranges []api.Row) force {
	f := force{}
	for loan, r := range ranges {
		for q := range bits.Each(r) {
			f.put(spot{loan, q}, len(s.loans))
		}
	}
	return f
}

// keeps tells whether no point breaks a loan that is in force there; if one does, the first such point, and its first loan.
func (s scene) keeps(f force) (loan, at int, ok bool) {
	ok = true
search:
	for q := range s.points {
		looks := s.looksByLocal(q)
		for k := range bits.Each(f[q]) {
			for _, a := range looks[s.loans[k].Place.Local] {
				if s.breaks(a, k) {
					loan, at, ok = k, q, false
					break search
				}
			}
		}
	}
	return loan, at, ok
}

// way answers the shortest way on which the loan comes to a point at which it is in force, of several such ones the first one by number: it goes to nearer points first, and among those that are equally near to the one to which the first way leads.
func (s scene) way(rows []api.Row, loan, to int) []int {
	start := s.loans[loan].At
	ahead := map[int]int{start: -1}
	queue := []int{start}
	for ; queue[0] != to; queue = queue[1:] {
		at := queue[0]
		if at != start && s.kills(at, loan) {
			continue
		}
		for next := range s.onward(rows, loan, at) {
			if _, came := ahead[next]; !came {
				ahead[next] = at
				queue = append(queue, next)
			}
		}
	}
	var way []int
	for q := to; q >= 0; q = ahead[q] {
		way = append(way, q)
	}
	slices.Reverse(way)
	return way
}
