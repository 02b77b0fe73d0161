package loan_test

import (
	"fmt"
	"math/rand"
	"slices"
	"strings"
	"testing"

	"loanword/api"
	"loanword/bits"
	"loanword/region"
)

// kinds are points of which small graphs are made: two Borrows, of which one kills its own loan; what breaks and kills one of the loans, both, none.
var kinds = []string{"_2 = & _3.*", "_4 = &mut _4.*", "_3 = box copy _4.*", "drop _3", "dead _4", "goto"}

// each is called with all graphs of so many points of these kinds.
func each(points int, ask func(u api.Unit)) {
	choices := []string{"return"}
	for a := range points {
		for _, kind := range kinds {
			choices = append(choices, fmt.Sprintf("%s -> %d", kind, a))
		}
		for b := range points {
			choices = append(choices, fmt.Sprintf("if true -> %d else %d", a, b))
		}
	}
	var fill func(chosen ...string)
	fill = func(chosen ...string) {
		if len(chosen) == points {
			ask(unitOf(graphOf(1, 0, "&'0 i64; i64; &i64; Box<i64>; &mut i64", strings.Join(chosen, "; "))))
			return
		}
		for _, s := range choices {
			fill(append(slices.Clone(chosen), s)...)
		}
	}
	fill()
}

// sets are all rows of a graph with these points alone, the same for all regions.
func sets(t *testing.T, u api.Unit, ask func(rows []api.Row)) {
	t.Helper()
	r := regionsOf(t, u, 1)
	for set := range uint64(1) << r.Points {
		ask(slices.Repeat([]api.Row{{Width: region.Width(r), Words: []uint64{set}}}, r.Count))
	}
}

// P16.1 to P16.4: all graphs of one and of two points, and all rows of theirs; of three points some.
func TestSmallGraphs(t *testing.T) {
	asked := 0
	for points := 1; points <= 3; points++ {
		met := 0
		each(points, func(u api.Unit) {
			met++
			if points == 3 && met%40 != 0 {
				return
			}
			asked++
			m := mustTell(t, u, 1)
			sets(t, u, func(rows []api.Row) { mustHold(t, u, 1, m, rows) })
		})
	}
	if asked != 8+17*17+28*28*28/40 {
		t.Errorf("%d graphs", asked)
	}
}

// P16.4: ways of graphs of three points, held against all ways that there are.
func TestSmallWays(t *testing.T) {
	met := 0
	each(3, func(u api.Unit) {
		if met++; met%61 == 0 {
			sets(t, u, func(rows []api.Row) { mustTellWays(t, u, 1, rows) })
		}
	})
}

// mustTellWays asks Why against all ways that there are.
func mustTellWays(t *testing.T, u api.Unit, fn int, rows []api.Row) {
	t.Helper()
	m, lists := ask(t, u, fn).matter(), listsOf(rows)
	least := m.ranges(lists)
	for k, l := range m.loans {
		row := lists[l.Region]
		ways := m.ways(k, row)
		for q := range m.next {
			want := m.whyAmong(ways, least[k], q)
			if !slices.Equal(want, m.why(k, row, least[k], q)) {
				t.Fatalf("two oracles: %s: %v: %d, %d", textOf(u, fn), lists, k, q)
			}
			mustWhy(t, u, fn, rows, k, q, want...)
		}
	}
}

// chance makes graphs and rows.
type chance struct{ *rand.Rand }

func byChance(seed int64) chance { return chance{rand.New(rand.NewSource(seed))} }

// unit is the scene with so many points of all kinds in its graph 1, many of them Borrows, of which some go on to the next one and some anywhere.
func (c chance) unit(points int) api.Unit {
	var l []string
	some := 1 + c.Intn(len(mentions))
	for q := range points {
		to := func() int {
			if c.Intn(2) == 0 {
				return c.Intn(points)
			}
			return (q + 1) % points
		}
		text := c.text(some)
		switch {
		case strings.HasPrefix(text, "if"):
			text = fmt.Sprintf("%s -> %d else %d", text, to(), to())
		case text != "return":
			text = fmt.Sprintf("%s -> %d", text, to())
		}
		l = append(l, text)
	}
	return scene(strings.Join(l, "; "))
}

// text is what is done at a point: one of the first mentions, a Borrow, a branch, a Return, anything.
func (c chance) text(some int) string {
	switch c.Intn(11) {
	case 0, 9, 10:
		return "if copy _4"
	case 1:
		return mentions[c.Intn(len(mentions))].text
	case 2:
		return []string{"return", "goto", "drop _5", "_4 = true"}[c.Intn(4)]
	case 3, 4, 5:
		for {
			if s := mentions[c.Intn(len(mentions))].text; strings.Contains(s, "&") {
				return s
			}
		}
	}
	return mentions[c.Intn(some)].text
}

// rows are so many of that width: few bits, or many.
func (c chance) rows(count, width int) []api.Row {
	var rows []api.Row
	for range count {
		var l []int
		often := c.Intn(5)
		for q := range width {
			if c.Intn(4) < often {
				l = append(l, q)
			}
		}
		rows = append(rows, rowOf(width, l...))
	}
	return rows
}

// rowsOf are rows of a graph's regions, most of which have many bits.
func (c chance) rowsOf(r api.Regions) []api.Row {
	rows := c.rows(r.Count, region.Width(r))
	for k, x := range c.rows(r.Count, region.Width(r)) {
		rows[k], _ = bits.Or(rows[k], x)
	}
	return rows
}

// P16.1 to P16.4: graphs by chance.
func TestGraphsByChance(t *testing.T) {
	c := byChance(161)
	met := map[string]int{}
	for n := range 60 {
		u := c.unit(1 + c.Intn(14) + n/57*40)
		mustMay(t, u)
		for fn := range u.Fns {
			if fn != 1 && n > 5 {
				continue // all units have the same others
			}
			m := mustTell(t, u, fn)
			r := regionsOf(t, u, fn)
			for range 2 {
				rows := c.rowsOf(r)
				mustHold(t, u, fn, m, rows, c.rows(len(m.loans), r.Points))
				note(met, m, m.ranges(listsOf(rows)))
			}
		}
	}
	for _, what := range []string{"in force", "at its own point", "broken", "killed where in force", "many loans"} {
		if met[what] < 25 {
			t.Errorf("%s: %d", what, met[what])
		}
	}
}

// note tells what was met.
func note(met map[string]int, m matter, ranges [][]int) {
	if _, _, ok := m.broken(ranges); !ok {
		met["broken"]++
	}
	if len(ranges) > 3 {
		met["many loans"]++
	}
	for k, in := range ranges {
		met["in force"] += len(in)
		if slices.Contains(in, m.loans[k].At) {
			met["at its own point"]++
		}
		if slices.ContainsFunc(in, func(q int) bool { return m.kills[q][k] }) {
			met["killed where in force"]++
		}
	}
}

// P16.4: ways of graphs by chance, held against all ways that there are.
func TestWaysByChance(t *testing.T) {
	c := byChance(162)
	for range 60 {
		u := c.unit(2 + c.Intn(6))
		mustTellWays(t, u, 1, c.rowsOf(regionsOf(t, u, 1)))
	}
}

// P16.2: ranges that are the least ones, but for one bit.
func TestClosedByChance(t *testing.T) {
	c := byChance(163)
	open, closed := 0, 0
	for range 60 {
		u := c.unit(3 + c.Intn(40))
		r := regionsOf(t, u, 1)
		rows := c.rowsOf(r)
		m := ask(t, u, 1).matter()
		least := m.ranges(listsOf(rows))
		for range 10 * min(1, len(least)) {
			k, q := c.Intn(len(least)), c.Intn(r.Points)
			changed := slices.Clone(least)
			changed[k] = slices.DeleteFunc(slices.Clone(least[k]), func(p int) bool { return p == q })
			if len(changed[k]) == len(least[k]) {
				changed[k] = append(changed[k], q)
			}
			ranges := rangesOf(u, 1, changed...)
			x, at, ok := m.closed(listsOf(rows), listsOf(ranges))
			mustClosed(t, u, 1, rows, ranges, x, at, ok)
			if ok {
				closed++
			} else {
				open++
			}
		}
	}
	if open < 50 || closed < 50 {
		t.Errorf("open %d, closed %d", open, closed)
	}
}

// program has Borrows of all kinds, loops, calls, and points that nobody reaches.
const program = "struct P { a: i64, b: Box<i64> } struct Q { p: P, t: bool } " +
	"fn main() -> i64 { let p = P { a: read(), b: box(2) }; let r = &mut p; let s = &mut *r; (*s).a = 4; let q = Q { p: P { a: 1, b: box(3) }, t: true }; let w = &q.p; let v = &w; " +
	"let b = box(&q); let c = box(&mut p); let i = 0; while i < 3 { i = i + 1; let z = pick(&(**v).a, &(**b).p.a, q.t); print(*z); if *z == i { continue; } swap(&mut *c); } h(v, w); j(); return k(&q, &i); i = 5; } " +
	"fn pick<'a, 'b: 'a>(x: &'a i64, y: &'b i64, t: bool) -> &'a i64 { if t { return x; } let z = &*y; return z; } " +
	"fn swap(x: &mut &mut P) -> i64 { let y = &mut (**x).b; **y = 5; return swap(x); } " +
	"fn h<'a, 'b>(x: &'a &'b P, y: &'b P) -> &'a P { let z = h(x, y); let u = &z; return *x; } " +
	"fn k<'x>(q: &Q, i: &'x i64) -> i64 { let e = box(i); let f = &e; let g = &**f; loop { let d = box(-1); let n = &d; if !(**g == **n) { break; } } return **g; } fn j() -> Box<i64> { return box(1); }"

// P16.1 to P16.4: graphs that come of a text; which function is asked counts.
func TestLoweredPrograms(t *testing.T) {
	u := lowered(t, program)
	c := byChance(164)
	ops := map[api.PointOp]bool{}
	for fn, g := range u.Fns {
		m := mustTell(t, u, fn)
		r := regionsOf(t, u, fn)
		mustHold(t, u, fn, m, rowsOf(t, u, fn))
		mustHold(t, u, fn, m, c.rowsOf(r), c.rows(len(m.loans), r.Points))
		for _, p := range g.Points {
			ops[p.Op] = true
		}
	}
	if len(ops) != 14 {
		t.Errorf("Ops %v", ops)
	}
}
