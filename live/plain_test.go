package live_test

import (
	"regexp"
	"slices"
	"strings"
	"testing"

	"loanword/api"
	"loanword/graph"
)

// plain says the document's words in the slowest way, of the texts and successors of points that layer 10 tells.
type plain struct {
	locals int
	texts  []string // without where it goes on
	next   [][]int  // rising
	used   [][]int  // rising, each local once
	gone   []int    // the local that is assigned whole, or is Dead, used there or not; -1: none
}

func plainOf(t *testing.T, u api.Unit, fn int) plain {
	t.Helper()
	x := plain{locals: len(u.Fns[fn].Locals)}
	for q := range u.Fns[fn].Points {
		text, e := graph.Text(u, fn, q)
		next, f := graph.Next(u, fn, q)
		if e != api.OK || f != api.OK {
			t.Fatal(e, f)
		}
		slices.Sort(next)
		text, _, _ = strings.Cut(text, " -> ")
		x.texts, x.next = append(x.texts, text), append(x.next, next)
		x.used, x.gone = append(x.used, usedBy(text)), append(x.gone, goneBy(text))
	}
	return x
}

var (
	operands = regexp.MustCompile(`(?:copy|move|&|&mut) _(\d+)`)
	assigned = regexp.MustCompile(`^_(\d+)([^ ]*) = `)
	dead     = regexp.MustCompile(`^dead _(\d+)$`)
)

func usedBy(text string) []int {
	var l []int
	for _, m := range operands.FindAllStringSubmatch(text, -1) {
		l = append(l, numberOf(m[1]))
	}
	if m := assigned.FindStringSubmatch(text); m != nil && strings.Contains(m[2], "*") {
		l = append(l, numberOf(m[1]))
	}
	if text == "return" {
		l = append(l, 0)
	}
	slices.Sort(l)
	return slices.Compact(l)
}

func goneBy(text string) int {
	if m := dead.FindStringSubmatch(text); m != nil {
		return numberOf(m[1])
	}
	if m := assigned.FindStringSubmatch(text); m != nil && m[2] == "" {
		return numberOf(m[1])
	}
	return -1
}

func (x plain) isUsed(local, q int) bool { return slices.Contains(x.used[q], local) }

// ends is the local that ends at a point; -1: none.
func (x plain) ends(q int) int {
	if x.isUsed(x.gone[q], q) {
		return -1
	}
	return x.gone[q]
}

// live are the points at which a local is live, in DOC.md's words: there is a way to a use, ahead of which it is neither assigned whole nor Dead.
func (x plain) live(local int) []int {
	n := len(x.next)
	way := make([][]bool, n)
	for a := range n {
		way[a] = make([]bool, n)
		for _, b := range x.next[a] {
			way[a][b] = x.gone[a] != local
		}
		way[a][a] = true
	}
	for via := range n {
		for a := range n {
			for b := range n {
				way[a][b] = way[a][b] || way[a][via] && way[via][b]
			}
		}
	}
	var l []int
	for a := range n {
		if slices.ContainsFunc(count(0, n), func(b int) bool { return way[a][b] && x.isUsed(local, b) }) {
			l = append(l, a)
		}
	}
	return l
}

// ways are all ways from a point of at most as many points as there are: shorter ones first, then by number.
func (x plain) ways(from int) [][]int {
	var all [][]int
	last := [][]int{{from}}
	for range x.next {
		all = append(all, last...)
		var longer [][]int
		for _, way := range last {
			for _, q := range x.next[way[len(way)-1]] {
				longer = append(longer, append(slices.Clone(way), q))
			}
		}
		last = longer
	}
	return all
}

// whyAmong is the first of these ways that ends at a use, and ahead of that has no point at which the local ends.
func (x plain) whyAmong(ways [][]int, local int) []int {
	for _, way := range ways {
		last := len(way) - 1
		if x.isUsed(local, way[last]) && !slices.ContainsFunc(way[:last], func(q int) bool { return x.ends(q) == local }) {
			return way
		}
	}
	return nil
}

// why is the same, told by how far it is from each point to a use.
func (x plain) why(local, from int) []int {
	const never = 1 << 20
	far := make([]int, len(x.next))
	for q := range far {
		far[q] = never
		if x.isUsed(local, q) {
			far[q] = 0
		}
	}
	for range x.next {
		for q, l := range x.next {
			for _, p := range l {
				if x.ends(q) != local {
					far[q] = min(far[q], far[p]+1)
				}
			}
		}
	}
	if far[from] >= never {
		return nil
	}
	way := []int{from}
	for q := from; far[q] > 0; {
		k := slices.IndexFunc(x.next[q], func(p int) bool { return far[p] == far[q]-1 })
		q = x.next[q][k]
		way = append(way, q)
	}
	return way
}

// closed tells whether these lists of points, one a local, are closed; if not, where it is first seen.
func (x plain) closed(rows [][]int) (local, at int, ok bool) {
	for local, row := range rows {
		for q := range x.next {
			onward := x.ends(q) != local && slices.ContainsFunc(x.next[q], func(p int) bool { return slices.Contains(row, p) })
			if (x.isUsed(local, q) || onward) && !slices.Contains(row, q) {
				return local, q, false
			}
		}
	}
	return 0, 0, true
}
