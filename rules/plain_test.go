package rules_test

import (
	"slices"
	"testing"

	"loanword/api"
	"loanword/bits"
	"loanword/graph"
	"loanword/live"
	"loanword/loan"
	"loanword/move"
	"loanword/outlive"
	"loanword/place"
	"loanword/types"
)

// What the package is held against: the document's words, said in the slowest way, bit by bit, by what the layers below tell of one point, one access, one list of paths at a time.

// matter is what of a graph the rules hang on, worked out once.
type matter struct {
	t     *testing.T
	u     api.Unit
	fn    int
	size  size
	lives int
	is    [][]bool // by point, by region: is a local live there in whose type it stands?
	flows []api.Constraint
	next  [][]int
	loans []api.Loan
	kills [][]bool // by point, by loan
	broke [][]bool
	start []int
	uses  [][]int // by point; what it uses again last
	again [][]int
}

func (m *matter) ok(l ...api.Errno) {
	m.t.Helper()
	for _, e := range l {
		if e != api.OK {
			m.t.Fatalf("%s: %v", textOf(m.u, m.fn), e)
		}
	}
}

func matterOf(t *testing.T, u api.Unit, fn int) *matter {
	t.Helper()
	m := &matter{t: t, u: u, fn: fn, size: sizeOf(t, u, fn), lives: u.Fns[fn].Lives}
	var e, f api.Errno
	m.loans, e = loan.Of(u, fn)
	m.start, f = move.Start(u, fn)
	m.ok(e, f)
	for q := range m.size.points {
		next, e := graph.Next(u, fn, q)
		flows, f := outlive.At(u, fn, q)
		m.ok(e, f)
		m.next = append(m.next, next)
		for _, c := range flows {
			if c.Long != c.Short && !slices.Contains(m.flows, c) {
				m.flows = append(m.flows, c)
			}
		}
		m.addLive(q)
		m.addLoans(q)
		uses, e := move.Uses(u, fn, q)
		m.ok(e)
		m.uses, m.again = append(m.uses, uses), append(m.again, m.usedAgain(q))
	}
	return m
}

// usedAgain are the paths that a point uses though an operand ahead of that use has moved them; layer 17 tells the least.
func (m *matter) usedAgain(q int) []int {
	m.t.Helper()
	s, locals, p := m.u.Structs, m.u.Fns[m.fn].Locals, m.u.Fns[m.fn].Points[q]
	paths, e := move.Paths(m.u, m.fn)
	m.ok(e)
	moved, again := map[int]bool{}, []int{}
	use := func(p api.Place, whole, itself bool) {
		held, e := place.Held(s, locals, p)
		m.ok(e)
		through := len(held.Path) < len(p.Path)
		for n, path := range paths {
			used := place.Prefix(path, held) && (itself || through || len(path.Path) < len(held.Path)) || whole && !through && place.Prefix(held, path)
			if used && moved[n] && !slices.Contains(again, n) {
				again = append(again, n)
			}
		}
	}
	for _, o := range slices.Concat([]api.Operand{p.A, p.B}, p.Args) {
		if o.Kind == api.Copy || o.Kind == api.Move {
			use(o.Place, true, true)
		}
		for n, path := range paths {
			moved[n] = moved[n] || o.Kind == api.Move && place.Prefix(o.Place, path)
		}
	}
	if to, is, e := graph.Assigns(m.u, m.fn, q); is {
		m.ok(e)
		use(to, false, false)
	}
	slices.Sort(again)
	least, is, e := move.Again(m.u, m.fn, q)
	m.ok(e)
	if is != (len(again) > 0) || is && least != again[0] {
		m.t.Fatalf("%s: Again %d: %d, %v; %v", textOf(m.u, m.fn), q, least, is, again)
	}
	return again
}

func (m *matter) addLive(q int) {
	m.t.Helper()
	is := make([]bool, m.size.regions)
	locals, e := live.At(m.u, m.fn, q)
	m.ok(e)
	for _, local := range locals {
		for _, k := range types.Regions(regionsOf(m.t, m.u, m.fn).Locals[local]) {
			is[k] = true
		}
	}
	m.is = append(m.is, is)
}

func (m *matter) addLoans(q int) {
	m.t.Helper()
	kills, broke := make([]bool, len(m.loans)), make([]bool, len(m.loans))
	gone, is, e := graph.Assigns(m.u, m.fn, q)
	looks, f := loan.Looks(m.u, m.fn, q)
	m.ok(e, f)
	if p := m.u.Fns[m.fn].Points[q]; p.Op == api.Dead {
		gone, is = p.From, true
	}
	for k, l := range m.loans {
		kills[k] = is && place.Prefix(gone, l.Place)
		for _, a := range looks {
			breaks, e := loan.Breaks(m.u, m.fn, k, a)
			m.ok(e)
			broke[k] = broke[k] || breaks
		}
	}
	m.kills, m.broke = append(m.kills, kills), append(m.broke, broke)
}

// each asks of so many things and so many places each what is broken, thing by thing.
func (m *matter) each(r api.Rule, whats, ats int, is func(what, at int) bool) []api.Broken {
	var l []api.Broken
	for what := range whats {
		for at := range ats {
			if is(what, at) {
				l = append(l, api.Broken{Fn: m.fn, At: at, Rule: r, What: what})
			}
		}
	}
	return l
}

// firsts are of those of each thing the first one.
func firsts(l []api.Broken) []api.Broken {
	return slices.CompactFunc(l, func(a, b api.Broken) bool { return a.What == b.What })
}

// byPoints are the same by points first.
func byPoints(l []api.Broken) []api.Broken {
	slices.SortStableFunc(l, func(a, b api.Broken) int { return a.At - b.At })
	return l
}

// fits tells whether so many rows are there, as wide, and may be.
func fits(rows []api.Row, count, width int) bool {
	for _, r := range rows {
		words := (width + 63) / 64
		if r.Width != width || len(r.Words) != words || width%64 != 0 && r.Words[words-1]>>(width%64) != 0 {
			return false
		}
	}
	return len(rows) == count
}

// broken is all that is broken in these rows.
func (m *matter) broken(c api.FnCert) []api.Broken {
	m.t.Helper()
	s := m.size
	for n, fit := range []bool{fits(c.Rows, s.regions, s.width), fits(c.Ranges, s.loans, s.points), fits(c.Moves, s.paths, s.points)} {
		if !fit {
			return []api.Broken{{Fn: m.fn, Rule: api.RuleSize, What: n + 1}}
		}
	}
	l := m.each(api.RuleLive, s.regions, s.points, func(k, q int) bool { return m.is[q][k] && !bits.Get(c.Rows[k], q) })
	l = append(l, firsts(m.each(api.RuleFlow, len(m.flows), s.width, func(n, bit int) bool {
		return bits.Get(c.Rows[m.flows[n].Short], bit) && !bits.Get(c.Rows[m.flows[n].Long], bit)
	}))...)
	l = append(l, firsts(m.each(api.RuleOwn, m.lives, s.width, func(k, bit int) bool {
		return (bit < s.points || bit == s.points+k) && !bits.Get(c.Rows[k], bit)
	}))...)
	l = append(l, m.each(api.RuleEnd, m.lives, s.width, func(k, bit int) bool {
		end := api.Outlives{Long: k, Short: bit - s.points}
		return bit >= s.points && end.Short != k && bits.Get(c.Rows[k], bit) && !slices.Contains(m.u.Fns[m.fn].Outlives, end)
	})...)
	l = append(l, m.each(api.RuleRange, s.loans, s.points, func(k, q int) bool { return !bits.Get(c.Ranges[k], q) && m.mustLast(c, k, q) })...)
	l = append(l, m.moved(c)...)
	l = append(l, byPoints(m.each(api.RuleBreak, s.loans, s.points, func(k, q int) bool { return bits.Get(c.Ranges[k], q) && m.broke[q][k] }))...)
	return append(l, byPoints(m.each(api.RuleUse, s.paths, s.points, func(p, q int) bool {
		return slices.Contains(m.uses[q], p) && bits.Get(c.Moves[p], q) || slices.Contains(m.again[q], p)
	}))...)
}

// mustLast tells whether a loan must be in force at a point, by these rows.
func (m *matter) mustLast(c api.FnCert, k, to int) bool {
	for q, next := range m.next {
		from := q == m.loans[k].At || bits.Get(c.Ranges[k], q) && !m.kills[q][k]
		if from && slices.Contains(next, to) && bits.Get(c.Rows[m.loans[k].Region], to) {
			return true
		}
	}
	return false
}

func (m *matter) moved(c api.FnCert) []api.Broken {
	m.t.Helper()
	must := make([][]int, m.size.points)
	must[0] = slices.Clone(m.start)
	for q, next := range m.next {
		var gone []int
		for p, r := range c.Moves {
			if bits.Get(r, q) {
				gone = append(gone, p)
			}
		}
		behind, e := move.Behind(m.u, m.fn, q, gone)
		m.ok(e)
		for _, to := range next {
			must[to] = append(must[to], behind...)
		}
	}
	return m.each(api.RuleMoved, m.size.paths, m.size.points, func(p, q int) bool { return slices.Contains(must[q], p) && !bits.Get(c.Moves[p], q) })
}

// least are the least rows in which nothing is wanting.
func (m *matter) least() api.FnCert {
	m.t.Helper()
	return mended(m.t, m.u, m.fn, empty(m.t, m.u, m.fn), m.broken)
}

// isWanting tells whether something is broken of the rules by which rows must have something.
func isWanting(l []api.Broken) bool {
	return slices.ContainsFunc(l, func(b api.Broken) bool {
		return b.Rule != api.RuleEnd && b.Rule != api.RuleBreak && b.Rule != api.RuleUse
	})
}

// mustHold asks all of a graph against the oracle: with these rows, and with others too: the least ones, rows without bits, with all bits, none.
func mustHold(m *matter, c api.FnCert, others ...api.FnCert) {
	m.t.Helper()
	least := m.least()
	mustKeep(m.t, m.u, m.fn, len(m.broken(least)) == 0)
	mustTell(m.t, m.u, m.fn, c, said(m.broken(c)...))
	for _, c := range append(others, least, empty(m.t, m.u, m.fn), whole(m.t, m.u, m.fn), api.FnCert{}) {
		mustTellAll(m.t, m.u, m.fn, c, said(m.broken(c)...))
	}
}
