package flow_test

import (
	"slices"
	"testing"

	"loanword/api"
	"loanword/graph"
)

// plain says the chapter's words in the slowest way, of the successors that layer 10 tells.
type plain struct {
	next [][]int
}

func plainOf(t *testing.T, u api.Unit, fn int) plain {
	t.Helper()
	var x plain
	for q := range u.Fns[fn].Points {
		l, e := graph.Next(u, fn, q)
		if e != api.OK {
			t.Fatal(e)
		}
		x.next = append(x.next, l)
	}
	return x
}

func (x plain) goes(a, b int) bool { return slices.Contains(x.next[a], b) }

// where are all points of which ask holds, rising.
func (x plain) where(ask func(q int) bool) []int {
	var l []int
	for q := range x.next {
		if ask(q) {
			l = append(l, q)
		}
	}
	return l
}

func (x plain) before(q int) []int {
	return x.where(func(p int) bool { return x.goes(p, q) })
}

// reaches tells of each two points whether there is a way from the first to the second on which bar does not stand.
func (x plain) reaches(bar int) [][]bool {
	n := len(x.next)
	r := make([][]bool, n)
	for a := range n {
		r[a] = make([]bool, n)
		r[a][a] = a != bar
		for _, b := range x.next[a] {
			r[a][b] = a != bar && b != bar
		}
	}
	for via := range n {
		for a := range n {
			for b := range n {
				r[a][b] = r[a][b] || r[a][via] && r[via][b]
			}
		}
	}
	return r
}

// ways are all ways from a point of at most as many points as there are: shorter ones first, then by number.
func (x plain) ways(from int) [][]int {
	var all [][]int
	last := [][]int{{from}}
	for range x.next {
		all = append(all, last...)
		var longer [][]int
		for _, way := range last {
			for _, q := range slices.Sorted(slices.Values(x.next[way[len(way)-1]])) {
				longer = append(longer, append(slices.Clone(way), q))
			}
		}
		last = longer
	}
	return all
}

// wayAmong is the first of all ways that ends at a point and has none of without between its ends.
func wayAmong(ways [][]int, to int, without []int) []int {
	for _, way := range ways {
		if way[len(way)-1] != to {
			continue
		}
		if len(way) < 3 || !slices.ContainsFunc(way[1:len(way)-1], func(q int) bool { return slices.Contains(without, q) }) {
			return way
		}
	}
	return nil
}

// way is the same, told by how far it is from each point to the last one.
func (x plain) way(from, to int, without []int) []int {
	const never = 1 << 20
	far := make([]int, len(x.next))
	for q := range far {
		far[q] = never
	}
	far[to] = 0
	for range x.next {
		for q, l := range x.next {
			for _, p := range l {
				if p == to || !slices.Contains(without, p) {
					far[q] = min(far[q], far[p]+1)
				}
			}
		}
	}
	if far[from] >= never {
		return nil
	}
	way := []int{from}
	for q := from; q != to; {
		least := -1
		for _, p := range x.next[q] {
			if far[p] == far[q]-1 && (p == to || !slices.Contains(without, p)) && (least < 0 || p < least) {
				least = p
			}
		}
		q = least
		way = append(way, q)
	}
	return way
}

func (x plain) is(way []int) (at int, ok bool) {
	for k, q := range way {
		if q < 0 || q >= len(x.next) {
			return k, false
		}
		if k > 0 && !x.goes(way[k-1], q) {
			return k, false
		}
	}
	return 0, len(way) != 0
}

// walk goes as the chapter says, by recursion.
func (x plain) walk() (order []int, back [][2]int) {
	come, left := map[int]bool{}, map[int]bool{}
	var visit func(q int)
	visit = func(q int) {
		come[q] = true
		for _, p := range x.next[q] {
			if !come[p] {
				visit(p)
			} else if !left[p] {
				back = append(back, [2]int{q, p})
			}
		}
		left[q] = true
		order = append([]int{q}, order...)
	}
	visit(0)
	return order, back
}

// above are of each point those that are on all ways from 0 to it.
func (x plain) above() [][]int {
	all := make([][]int, len(x.next))
	reached := x.reaches(-1)[0]
	for p := range x.next {
		without := x.reaches(p)[0]
		for q := range x.next {
			if reached[q] && !without[q] {
				all[q] = append(all[q], p)
			}
		}
	}
	return all
}

// right is the one of those above a point, but itself, above which all the others lie.
func (x plain) right() []int {
	above := x.above()
	all := make([]int, len(x.next))
	for q := range x.next {
		all[q] = -1
		for _, p := range above[q] {
			if p != q && !slices.ContainsFunc(above[q], func(o int) bool { return o != q && !slices.Contains(above[p], o) }) {
				all[q] = p
			}
		}
	}
	return all
}

// loop is nil where Loop must refuse.
func (x plain) loop(from, to int) []int {
	if !x.goes(from, to) || !slices.Contains(x.above()[from], to) {
		return nil
	}
	reaches := x.reaches(to)
	return x.where(func(q int) bool { return q == to || reaches[q][from] })
}
