package live_test

import (
	"fmt"
	"math/rand"
	"slices"
	"strings"
	"testing"

	"loanword/api"
	"loanword/graph"
)

// mustHold asks all calls of a graph, whatever they can be asked, against the oracle; Closed of its own rows, of none, of all, and of these more.
func mustHold(t *testing.T, u api.Unit, fn int, more ...[]api.Row) {
	t.Helper()
	x := plainOf(t, u, fn)
	var lives [][]int
	for local := range x.locals {
		lives = append(lives, x.live(local))
	}
	rows := mustOf(t, u, fn, lives...)
	for q := range x.next {
		mustUse(t, u, fn, q, x.used[q]...)
		mustEnd(t, u, fn, q, x.ends(q))
		mustAt(t, u, fn, q, slices.DeleteFunc(count(0, x.locals), func(local int) bool { return !slices.Contains(lives[local], q) })...)
		for local := range x.locals {
			mustWhy(t, u, fn, local, q, x.why(local, q)...)
		}
	}
	width := len(x.next)
	more = append(more, rows, slices.Repeat([]api.Row{rowOf(width)}, x.locals), slices.Repeat([]api.Row{full(width)}, x.locals))
	for _, rows := range more {
		local, at, ok := x.closed(listsOf(rows))
		mustClosed(t, u, fn, rows, local, at, ok)
	}
}

// kinds are points of which small graphs are made: each use and end of the local 1 that there is, and both.
var kinds = []string{"print copy _1", "_1 = 5", "_1 = copy _1", "dead _1", "goto"}

// each is called with all graphs of so many points of these kinds.
func each(points int, ask func(u api.Unit)) {
	choices := []string{"return"}
	for a := range points {
		for _, kind := range kinds {
			choices = append(choices, fmt.Sprintf("%s -> %d", kind, a))
		}
		for b := range points {
			choices = append(choices, fmt.Sprintf("if true -> %d else %d", a, b))
		}
	}
	var fill func(chosen ...string)
	fill = func(chosen ...string) {
		if len(chosen) == points {
			ask(unitOf("i64; i64", strings.Join(chosen, "; ")))
			return
		}
		for _, s := range choices {
			fill(append(slices.Clone(chosen), s)...)
		}
	}
	fill()
}

// P14.1 to P14.3: all graphs of one and of two points; of three points some.
func TestSmallGraphs(t *testing.T) {
	asked := 0
	for points := 1; points <= 3; points++ {
		met := 0
		each(points, func(u api.Unit) {
			met++
			if points < 3 || met%4 == 0 {
				asked++
				mustHold(t, u, 0)
			}
		})
	}
	if asked != 7+15*15+25*25*25/4 {
		t.Errorf("%d graphs", asked)
	}
}

// P14.2: ways of graphs of three points, held against all ways that there are.
func TestSmallWays(t *testing.T) {
	met := 0
	each(3, func(u api.Unit) {
		if met++; met%3 == 0 {
			mustTellWays(t, u, 0)
		}
	})
}

// mustTellWays asks Why against all ways that there are.
func mustTellWays(t *testing.T, u api.Unit, fn int) {
	t.Helper()
	x := plainOf(t, u, fn)
	for q := range x.next {
		ways := x.ways(q)
		for local := range x.locals {
			want := x.whyAmong(ways, local)
			if !slices.Equal(want, x.why(local, q)) {
				t.Fatalf("two oracles: %s: %d, %d", textOf(u, fn), local, q)
			}
			mustWhy(t, u, fn, local, q, want...)
		}
	}
}

// chance makes graphs.
type chance struct{ *rand.Rand }

func byChance(seed int64) chance { return chance{rand.New(rand.NewSource(seed))} }

// unit is the scene with so many points of all kinds in its graph 0, of which some go on to the next one and some anywhere.
func (c chance) unit(points int) api.Unit {
	var l []string
	some := 1 + c.Intn(len(mentions))
	for q := range points {
		to := func() int {
			if c.Intn(2) == 0 {
				return c.Intn(points)
			}
			return (q + 1) % points
		}
		text := mentions[c.Intn(some)].text
		switch c.Intn(5) {
		case 0:
			text = "if copy _2"
		case 1:
			text = mentions[c.Intn(len(mentions))].text
		}
		switch {
		case strings.HasPrefix(text, "if"):
			text = fmt.Sprintf("%s -> %d else %d", text, to(), to())
		case text != "return":
			text = fmt.Sprintf("%s -> %d", text, to())
		}
		l = append(l, text)
	}
	return scene(strings.Join(l, "; "))
}

// rows are some of that many locals: few bits, or many.
func (c chance) rows(locals, width int) []api.Row {
	var rows []api.Row
	for range locals {
		var l []int
		often := c.Intn(4)
		for q := range width {
			if c.Intn(4) < often {
				l = append(l, q)
			}
		}
		rows = append(rows, rowOf(width, l...))
	}
	return rows
}

// P14.1 to P14.3: graphs by chance.
func TestGraphsByChance(t *testing.T) {
	c := byChance(141)
	for range 150 {
		u := c.unit(1 + c.Intn(14))
		mustMay(t, u)
		for fn, g := range u.Fns {
			mustHold(t, u, fn, c.rows(len(g.Locals), len(g.Points)))
		}
	}
	for range 12 {
		u := c.unit(20 + c.Intn(50))
		mustHold(t, u, 0, c.rows(14, len(u.Fns[0].Points)))
	}
}

// P14.2: ways of graphs by chance, held against all ways that there are.
func TestWaysByChance(t *testing.T) {
	c := byChance(142)
	for range 100 {
		mustTellWays(t, c.unit(2+c.Intn(7)), 0)
	}
}

// P14.3: rows of graphs by chance that are closed but for one bit, and a bit more.
func TestClosedByChance(t *testing.T) {
	c := byChance(143)
	open, closed := 0, 0
	for range 200 {
		u := c.unit(3 + c.Intn(80))
		x := plainOf(t, u, 0)
		var lists [][]int
		for local := range x.locals {
			lists = append(lists, x.live(local))
		}
		for range 20 {
			local, q := c.Intn(x.locals), c.Intn(len(x.next))
			changed := slices.Clone(lists)
			if slices.Contains(lists[local], q) {
				changed[local] = slices.DeleteFunc(slices.Clone(lists[local]), func(p int) bool { return p == q })
			} else {
				changed[local] = append(slices.Clone(lists[local]), q)
			}
			var rows []api.Row
			for _, l := range changed {
				rows = append(rows, rowOf(len(x.next), l...))
			}
			local, at, ok := x.closed(changed)
			mustClosed(t, u, 0, rows, local, at, ok)
			if ok {
				closed++
			} else {
				open++
			}
		}
	}
	if open < 300 || closed < 300 {
		t.Errorf("open %d, closed %d", open, closed)
	}
}

// program has points of each Op, loops in one another, and points that nobody reaches.
const program = "struct P { a: i64, b: Box<i64> } struct Q { p: P, t: bool } " +
	"fn main() -> i64 { let p = P { a: read(), b: box(2) }; let r = &mut p; let i = 0; while i < 3 || false { i = i + 1; { let b = box(i); if *b == 2 { continue; } } " +
	"loop { let c = -i; if !(1 == c) && true { break; } else { if i > 2 { return h(); } } while true { } } } (*r).a = 4; print(p.a); g(&p, true); k(); return 0; i = 5; } " +
	"fn g<'a>(x: &'a P, y: bool) -> &'a P { loop { if y { return x; } if !y { loop { if y { break; } } } } } " +
	"fn h() -> i64 { return 7; print(1); loop { } } fn k() -> Box<i64> { return box(1); }"

// P14.1 to P14.3: graphs that come of a text; which function is asked counts.
func TestLoweredPrograms(t *testing.T) {
	u := lowered(t, program)
	c := byChance(144)
	ops := map[api.PointOp]bool{}
	for fn, g := range u.Fns {
		mustHold(t, u, fn, c.rows(len(g.Locals), len(g.Points)))
		for _, p := range g.Points {
			ops[p.Op] = true
		}
	}
	if len(ops) != 14 {
		t.Errorf("%d Ops", len(ops))
	}
}

// P14.1: DOC.md's examples 2 and 3: a reference is live up to its last use, and no further.
func TestReferencesOfPrograms(t *testing.T) {
	for text, assignedWhileLive := range map[string]bool{
		"fn main() -> i64 { let x = 1; let r = &mut x; x = 2; *r = 3; return x; }": true,
		"fn main() -> i64 { let x = 1; let r = &mut x; *r = 3; x = 2; return x; }": false,
	} {
		u := lowered(t, text)
		g := u.Fns[0]
		x, r := slices.Index(g.Names, "x"), slices.Index(g.Names, "r")
		met := false
		for q := range g.Points {
			if s, _ := graph.Text(u, 0, q); s == fmt.Sprintf("_%d = 2", x) || s == fmt.Sprintf("_%d.* = 3", r) {
				mustWhyHave(t, u, r, q, strings.HasSuffix(s, "3") || assignedWhileLive)
				met = true
			}
		}
		if !met {
			t.Errorf("%s: %s", text, textOf(u, 0))
		}
	}
}
