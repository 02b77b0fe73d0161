package loan_test

import (
	"regexp"
	"slices"
	"strings"
	"testing"

	"loanword/api"
	"loanword/graph"
	"loanword/place"
	"loanword/region"
	"loanword/types"
)

// What the package is held against: the document's words, said in the slowest way of the texts and successors of points that layer 10 tells, of layer 9's Within, of layer 13's Borrowed.

// asked is a graph of which the oracle is asked.
type asked struct {
	t     *testing.T
	u     api.Unit
	fn    int
	texts []string // what stands at each point, without where it goes on
}

func ask(t *testing.T, u api.Unit, fn int) asked {
	t.Helper()
	x := asked{t: t, u: u, fn: fn}
	l, e := graph.Lines(u, fn)
	x.ok(e)
	for _, s := range l {
		_, s, _ = strings.Cut(s, ": ")
		s, _, _ = strings.Cut(s, " -> ")
		x.texts = append(x.texts, s)
	}
	return x
}

func (x asked) ok(e api.Errno) {
	x.t.Helper()
	if e != api.OK {
		x.t.Fatalf("%s: %v", textOf(x.u, x.fn), e)
	}
}

func (x asked) typeOf(p api.Place) api.Type {
	x.t.Helper()
	t, e := graph.Type(x.u, x.fn, p)
	x.ok(e)
	return t
}

// isShared tells whether a place goes through a shared reference.
func (x asked) isShared(p api.Place) bool {
	x.t.Helper()
	l, e := place.Goes(x.u.Structs, x.u.Fns[x.fn].Locals, p)
	x.ok(e)
	return slices.Contains(l, 3)
}

var (
	read     = regexp.MustCompile(`(copy|move) (_[0-9.*]+)`)
	borrowed = regexp.MustCompile(` = (&|&mut) (_[0-9.*]+)$`)
	dropped  = regexp.MustCompile(`^(?:drop|dead) (_[0-9.*]+)$`)
	laid     = regexp.MustCompile(`^(_[0-9.*]+) = `)
	dead     = regexp.MustCompile(`^dead (_[0-9]+)$`)
)

func (x asked) looks(q int) []api.Access {
	x.t.Helper()
	text := x.texts[q]
	var l []api.Access
	for _, m := range read.FindAllStringSubmatch(text, -1) {
		l = append(l, api.Access{Place: placeOf(m[2]), Depth: api.Deep, Write: m[1] == "move"})
	}
	if m := borrowed.FindStringSubmatch(text); m != nil {
		l = append(l, api.Access{Place: placeOf(m[2]), Depth: api.Deep, Write: m[1] == "&mut"})
	}
	if m := dropped.FindStringSubmatch(text); m != nil {
		l = append(l, api.Access{Place: placeOf(m[1]), Depth: api.Dropping, Write: true})
	}
	if m := laid.FindStringSubmatch(text); m != nil {
		a := api.Access{Place: placeOf(m[1]), Depth: api.Shallow, Write: true}
		is, e := types.Drops(x.u.Structs, x.typeOf(a.Place))
		x.ok(e)
		if is {
			a.Depth = api.Dropping
		}
		l = append(l, a)
	}
	if text == "return" {
		for local := range x.u.Fns[x.fn].Locals {
			l = append(l, api.Access{Place: api.Place{Local: local}, Depth: api.Dropping, Write: true})
		}
		l[0].Depth = api.Deep
	}
	return l
}

func (x asked) loans() []api.Loan {
	x.t.Helper()
	var l []api.Loan
	for q := range x.texts {
		if m := borrowed.FindStringSubmatch(x.texts[q]); m != nil {
			made, e := region.Borrowed(x.u, x.fn, q)
			x.ok(e)
			l = append(l, api.Loan{At: q, Place: placeOf(m[2]), Mut: m[1] == "&mut", Region: made.Region})
		}
	}
	return l
}

func (x asked) breaks(l api.Loan, a api.Access) bool {
	x.t.Helper()
	if !l.Mut && !a.Write {
		return false
	}
	in, e := place.Within(x.u.Structs, x.u.Fns[x.fn].Locals, a.Place, l.Place, a.Depth)
	x.ok(e)
	return in || slices.ContainsFunc(place.Prefixes(a.Place), func(p api.Place) bool { return place.Same(p, l.Place) })
}

// matter is what of a graph matters for how far loans are in force, worked out once.
type matter struct {
	loans []api.Loan
	next  [][]int  // rising
	kills [][]bool // by point, by loan
	broke [][]bool // by point, by loan: does what the point looks at break it?
}

func (x asked) matter() matter {
	x.t.Helper()
	m := matter{loans: x.loans()}
	for q := range x.texts {
		next, e := graph.Next(x.u, x.fn, q)
		x.ok(e)
		slices.Sort(next)
		kills, broke := make([]bool, len(m.loans)), make([]bool, len(m.loans))
		looks, gone := x.looks(q), x.gone(q)
		for k, l := range m.loans {
			prefixes := strings.Split(place.Text(l.Place), ".")
			for n := range prefixes {
				kills[k] = kills[k] || strings.Join(prefixes[:n+1], ".") == gone
			}
			broke[k] = slices.ContainsFunc(looks, func(a api.Access) bool { return x.breaks(l, a) })
		}
		m.next, m.kills, m.broke = append(m.next, next), append(m.kills, kills), append(m.broke, broke)
	}
	return m
}

// gone is the place whose loans the point kills; none of no place.
func (x asked) gone(q int) string {
	x.t.Helper()
	for _, r := range []*regexp.Regexp{laid, dead} {
		if m := r.FindStringSubmatch(x.texts[q]); m != nil {
			return m[1]
		}
	}
	return ""
}

func (m matter) killed(q int) []int {
	var l []int
	for k, is := range m.kills[q] {
		if is {
			l = append(l, k)
		}
	}
	return l
}

// must are the points at which a loan must be in force, if it is so at these, and its region's row has those.
func (m matter) must(k int, row, in []int) []int {
	var l []int
	for to := range m.next {
		ahead := slices.ContainsFunc(count(0, len(m.next)), func(q int) bool {
			goes := q == m.loans[k].At || slices.Contains(in, q) && !m.kills[q][k]
			return goes && slices.Contains(m.next[q], to)
		})
		if ahead && slices.Contains(row, to) {
			l = append(l, to)
		}
	}
	return l
}

// ranges are the least ones, by these lists of what the regions' rows have.
func (m matter) ranges(rows [][]int) [][]int {
	var l [][]int
	for k := range m.loans {
		var in []int
		for {
			must := m.must(k, rows[m.loans[k].Region], in)
			if slices.Equal(must, in) {
				break
			}
			in = must
		}
		l = append(l, in)
	}
	return l
}

func (m matter) closed(rows, ranges [][]int) (loan, at int, ok bool) {
	for k, in := range ranges {
		for _, q := range m.must(k, rows[m.loans[k].Region], in) {
			if !slices.Contains(in, q) {
				return k, q, false
			}
		}
	}
	return 0, 0, true
}

func (m matter) broken(ranges [][]int) (loan, at int, ok bool) {
	for q := range m.next {
		for k, in := range ranges {
			if slices.Contains(in, q) && m.broke[q][k] {
				return k, q, false
			}
		}
	}
	return 0, 0, true
}

// isWay tells whether the loan comes on this way to its end.
func (m matter) isWay(k int, row, way []int) bool {
	for n, q := range way {
		switch {
		case n == 0 && q != m.loans[k].At,
			n > 0 && (!slices.Contains(m.next[way[n-1]], q) || !slices.Contains(row, q)),
			n > 0 && n < len(way)-1 && m.kills[q][k]:
			return false
		}
	}
	return len(way) > 0
}

// ways are all ways on which the loan comes anywhere, of at most as many points as there are: shorter ones first, then by number.
func (m matter) ways(k int, row []int) [][]int {
	var all [][]int
	last := [][]int{{m.loans[k].At}}
	for range m.next {
		all = append(all, last...)
		var longer [][]int
		for _, way := range last {
			for _, q := range m.next[way[len(way)-1]] {
				if w := append(slices.Clone(way), q); m.isWay(k, row, w) {
					longer = append(longer, w)
				}
			}
		}
		last = longer
	}
	return all
}

// whyAmong is the first of these ways that ends there, if the loan is in force there.
func (m matter) whyAmong(ways [][]int, in []int, q int) []int {
	if !slices.Contains(in, q) {
		return nil
	}
	return ways[slices.IndexFunc(ways, func(way []int) bool { return way[len(way)-1] == q })]
}

// why is the same, told by how far it is from each point to that one.
func (m matter) why(k int, row, in []int, to int) []int {
	if !slices.Contains(in, to) {
		return nil
	}
	const never = 1 << 20
	far := slices.Repeat([]int{never}, len(m.next))
	far[to] = 0
	way := []int{m.loans[k].At}
	for range m.next {
		for q, l := range m.next {
			for _, p := range l {
				if (q == way[0] || !m.kills[q][k]) && slices.Contains(row, p) {
					far[q] = min(far[q], far[p]+1)
				}
			}
		}
	}
	for q := way[0]; far[q] > 0; way = append(way, q) {
		q = m.next[q][slices.IndexFunc(m.next[q], func(p int) bool { return slices.Contains(row, p) && far[p] == far[q]-1 })]
	}
	return way
}

// mustTell asks what hangs on no rows of a graph against the oracle.
func mustTell(t *testing.T, u api.Unit, fn int) matter {
	t.Helper()
	x := ask(t, u, fn)
	m := x.matter()
	mustOf(t, u, fn, lent(m.loans))
	for q := range m.next {
		mustKill(t, u, fn, q, m.killed(q)...)
		for _, a := range mustLook(t, u, fn, q, said(x.looks(q))) {
			for k, l := range m.loans {
				mustBreak(t, u, fn, k, a, x.breaks(l, a))
			}
		}
	}
	return m
}

// mustHold asks all of a graph that hangs on rows against the oracle: with the least ranges, with none, with all, and with these.
func mustHold(t *testing.T, u api.Unit, fn int, m matter, rows []api.Row, more ...[]api.Row) {
	t.Helper()
	lists := listsOf(rows)
	least := m.ranges(lists)
	ranges := mustRange(t, u, fn, rows, least...)
	for k, l := range m.loans {
		for q := range m.next {
			mustWhy(t, u, fn, rows, k, q, m.why(k, lists[l.Region], least[k], q)...)
		}
	}
	more = append(more, ranges, slices.Repeat([]api.Row{rowOf(len(m.next))}, len(m.loans)), slices.Repeat([]api.Row{full(len(m.next))}, len(m.loans)))
	for _, ranges := range more {
		in := listsOf(ranges)
		k, at, ok := m.closed(lists, in)
		mustClosed(t, u, fn, rows, ranges, k, at, ok)
		k, at, ok = m.broken(in)
		mustBroken(t, u, fn, ranges, k, at, ok)
	}
}
