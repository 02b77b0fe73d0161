package rules_test

import (
	"fmt"
	"math/rand"
	"slices"
	"strings"
	"testing"

	"loanword/api"
	"loanword/rules"
)

// tinies are graphs of so few rows of so few bits that all rows can be asked, and whether there are rows in which nothing is broken.
var tinies = []struct {
	g     api.Graph
	keeps bool
}{
	{graphOf(1, 1, "&'0 i64; &'0 i64", "_0 = copy _1; return"), true},
	{graphOf(1, 1, "&'0 i64; &'0 i64", "_0 = & _1.*; return"), true},
	{graphOf(1, 1, "&'0 i64; i64", "_0 = & _1; return"), false},
	{graphOf(1, 1, "&'0 i64; &'0 i64", "return; _0 = copy _1 -> 0"), false},
	{graphOf(2, 1, "&'0 i64; &'1 i64", "_0 = copy _1; return"), false},
	{outlives(graphOf(2, 1, "&'0 i64; &'1 i64", "_0 = copy _1; return"), "1:0"), true},
	{outlives(graphOf(2, 1, "&'0 i64; &'1 i64", "_0 = copy _1; return"), "0:1"), false},
	{graphOf(0, 1, "i64; i64; &mut i64", "_2 = &mut _1; _1 = 5 -> 0"), true},
	{graphOf(0, 1, "i64; i64; &mut i64", "_2 = &mut _1; _2.* = copy _1 -> 0"), false},
	{graphOf(0, 1, "i64; i64; &mut i64", "_2 = &mut _1; _2.* = 5 -> 0"), true},
	{graphOf(0, 1, "i64; Box<i64>", "_0 = 1; _1 = move _1 -> 0"), true},
	{graphOf(0, 1, "i64; Box<i64>", "_1.* = 1; drop _1 -> 0"), false},
	{graphOf(0, 1, "i64; Box<i64>", "_1 = box 1; drop _1 -> 0"), true},
	{graphOf(0, 1, "i64; Box<i64>; Box<i64>", "_2 = move _1; goto -> 1"), true},
	{graphOf(0, 1, "i64; Box<i64>; Box<i64>", "_2 = move _1; drop _2 -> 0"), false},
	{graphOf(0, 1, "i64; Box<i64>", "_1 = f2(move _1, move _1) -> 0"), false},
	{graphOf(0, 0, "i64; i64; &mut i64", "_1 = 4; _2 = &mut _1 -> 0"), true},
	{graphOf(0, 0, "i64; i64; &i64", "print copy _2.*; _2 = & _1 -> 0"), false},
}

// tiny is the unit of one of them, as the graph 1.
func tiny(g api.Graph) api.Unit {
	return unitOf(g, graphOf(0, 2, "Box<i64>; Box<i64>; Box<i64>", "return"))
}

// counted are rows of a graph's size whose bits are those of a number.
func counted(s size, n uint64) api.FnCert {
	next := func(count, width int) []api.Row {
		var l []api.Row
		for range count {
			l = append(l, api.Row{Width: width, Words: []uint64{n & (1<<width - 1)}})
			n >>= width
		}
		return l
	}
	return api.FnCert{Rows: next(s.regions, s.width), Ranges: next(s.loans, s.points), Moves: next(s.paths, s.points)}
}

// P18.1, P18.2, P18.5: all rows of tiny graphs: what is broken in them; there are some in which nothing is just if nothing is in the least ones; all in which nothing is wanting have all bits of these.
func TestAllRows(t *testing.T) {
	for _, x := range tinies {
		u := tiny(x.g)
		mustMay(t, u)
		m := matterOf(t, u, 1)
		least := m.least()
		all := m.size.regions*m.size.width + (m.size.loans+m.size.paths)*m.size.points
		must(all <= 16, textOf(u, 1))
		kept := 0
		for n := range uint64(1) << all {
			c := counted(m.size, n)
			l := m.broken(c)
			if n%53 == 0 || len(l) < 2 {
				mustTellFirst(t, u, 1, c, l)
			}
			if n%211 == 0 {
				mustTell(t, u, 1, c, said(l...))
			}
			if len(l) == 0 {
				kept++
			}
			if !isWanting(l) {
				mustHaveAll(t, u, c, least)
			}
		}
		if kept > 0 != x.keeps || len(m.broken(least)) == 0 != x.keeps {
			t.Errorf("%s: of %d rows %d break nothing; of the least ones %s is broken", textOf(u, 1), 1<<all, kept, said(m.broken(least)...))
		}
		mustKeep(t, u, 1, x.keeps)
	}
}

// mustHaveAll asks that rows have all bits of others.
func mustHaveAll(t *testing.T, u api.Unit, more, less api.FnCert) {
	t.Helper()
	for n, rows := range [][]api.Row{less.Rows, less.Ranges, less.Moves} {
		for k, r := range rows {
			for i, word := range r.Words {
				if word&^[][]api.Row{more.Rows, more.Ranges, more.Moves}[n][k].Words[i] != 0 {
					t.Fatalf("%s: %s; %s", textOf(u, 1), written(more), written(less))
				}
			}
		}
	}
}

// The structs are #0 {i64, Box<i64>}, #1 {#0, Box<#1>, bool}, #2 {i64, bool}, #3 {#2, i64}.
const locals = "&'0 i64; &'0 i64; &'1 mut #1; i64; bool; Box<i64>; &i64; &mut i64; #0; &mut #0; &#0; Box<#0>; Box<&mut i64>; & &mut i64; &mut &mut i64; #1; Box<&'1 i64>; Box<#1>"

// kinds are points of all kinds: they move, lend, reborrow, assign, drop, end, call.
var kinds = []string{
	"_3 = 5", "_0 = copy _1", "_0 = copy _6", "_6 = copy _0", "_1 = copy _16.*", "_5 = move _5", "_5.* = 4", "_3 = copy _5.*", "_5 = move _8.1", "_7 = move _7", "_7.* = copy _6.*", "_7 = move _12.*", "_14.* = move _7", "_14.*.* = 1", "_3 = copy _13.*.*",
	"_8 = move _11.*", "_8.0 = 7", "_8.1 = move _5", "_9.*.1 = move _5", "_9.*.0 = copy _10.*.0", "_15.0 = move _8", "_15.1.* = move _15.1.*.1.*", "_15 = move _17.*",
	"_5 = box copy _3", "_11 = box move _8", "_12 = box move _7", "_16 = box copy _6", "_16 = box copy _0", "_15.1 = box move _15", "_17 = box move _15",
	"_6 = & _3", "_7 = &mut _3", "_0 = & _3", "_7 = &mut _7.*", "_6 = & _6.*", "_6 = & _7.*", "_14.* = &mut _3", "_14 = &mut _7", "_13 = & _7", "_9 = &mut _8", "_10 = & _8", "_7 = &mut _9.*.0", "_9 = &mut _2.*.0", "_7 = &mut _8.1.*", "_6 = & _16.*.*", "_0 = & _16.*.*", "_6 = & _15.1.*.0.0", "_7 = &mut _14.*.*",
	"_8 = #0(copy _3, move _5)", "_8 = #0(1, move _8.1)", "_15 = #1(move _8, move _15.1, copy _4)", "_3 = f2(copy _3, move _5)", "_6 = f3(copy _6, copy _4)", "_0 = f3(copy _1, true)", "_9 = f4(move _9, copy _6)", "_9.* = f5(move _8, move _8.1)", "_3 = f6(move _5, move _5)", "_3 = f6(move _5, move _8.1)", "_6 = f7(copy _6, copy _0, copy _1)", "_2 = f8(move _2, copy _16.*)",
	"_4 = copy _3 < 4", "_3 = copy _3 + 1", "_5.* = - copy _5.*", "_3 = read", "print copy _3", "print copy _6.*", "drop _5", "drop _8", "drop _8.1", "drop _11.*", "drop _15.1.*.0", "dead _3", "dead _5", "dead _7", "dead _1", "dead _15", "goto", "if copy _4", "if true",
}

// scene is a unit whose graph 1 has locals of all kinds, and these points; what its Calls call is beside it.
func scene(params int, points string) api.Unit {
	return unitOf(outlives(graphOf(2, params, locals, points), "1:0"),
		graphOf(0, 2, "i64; i64; Box<i64>", "_0 = copy _2.*; return"),
		graphOf(1, 2, "&'0 i64; &'0 i64; bool", "return"),
		outlives(graphOf(2, 2, "&'0 mut #0; &'0 mut #0; &'1 i64", "return"), "1:0"),
		graphOf(0, 2, "#0; #0; Box<i64>", "return"),
		graphOf(0, 2, "i64; Box<i64>; Box<i64>", "return"),
		outlives(graphOf(3, 3, "&'0 i64; &'1 i64; &'0 i64; &'2 i64", "_0 = copy _1; return"), "0:2 1:0 1:2"),
		graphOf(2, 2, "&'1 mut #1; &'1 mut #1; &'0 i64", "return"),
	)
}

// chance makes graphs and rows.
type chance struct{ *rand.Rand }

func byChance(seed int64) chance { return chance{rand.New(rand.NewSource(seed))} }

// unit is the scene with so many points of all kinds in its graph 1, of which most go on to the next one and some anywhere.
func (c chance) unit(points int) api.Unit {
	var l []string
	some := 1 + c.Intn(len(kinds))
	for q := range points {
		to := func() int {
			if c.Intn(4) == 0 {
				return c.Intn(points)
			}
			return (q + 1) % points
		}
		text := c.text(some)
		switch {
		case strings.HasPrefix(text, "if"):
			text = fmt.Sprintf("%s -> %d else %d", text, to(), to())
		case text != "return":
			text = fmt.Sprintf("%s -> %d", text, to())
		}
		l = append(l, text)
	}
	return scene(2, strings.Join(l, "; "))
}

// milds are points of which many keep the rules together.
var milds = []string{
	"_4 = 5", "_0 = copy _4", "_6 = & _4", "_7 = &mut _4", "_6 = & _1.*", "_7 = &mut _2.*", "_6 = & _3.*", "_7 = &mut _3.*", "_6 = & _5.0", "_7 = &mut _5.1.*", "_6 = copy _1", "_6 = f3(copy _1, true)", "_8 = box copy _6", "_6 = copy _8.*",
	"_6 = & _4", "_7 = &mut _7.*", "_3 = box 1", "_5.1 = box 2", "drop _3", "_9 = move _3", "_3 = move _9", "_9 = move _5.1", "print copy _6.*", "_7.* = 3", "_0 = copy _6.*", "_2.* = copy _1.*", "_6 = & _10", "_10 = 1", "dead _10", "if copy _0 == 1", "goto", "return",
}

// mild is a unit like the scene's, but the rules are often kept.
func (c chance) mild(points int) api.Unit {
	l := []string{"_0 = 1", "_6 = copy _1"}
	for q := 2; q < points; q++ {
		text := milds[c.Intn(len(milds))]
		switch {
		case text == "return":
		case strings.HasPrefix(text, "if"):
			text = fmt.Sprintf("if true -> %d else %d", (q+1)%points, c.Intn(points))
		case q == points-1:
			text += " -> 0"
		}
		l = append(l, text)
	}
	u := scene(2, "return")
	g := &u.Fns[1]
	*g = outlives(graphOf(2, 5, "i64; &'0 i64; &'1 mut i64; Box<i64>; i64; #0; &i64; &mut i64; Box<&'0 i64>; Box<i64>; i64", strings.Join(l[:points], "; ")), "1:0")
	if last := &g.Points[points-1]; last.Next == points {
		last.Next = 0
	}
	return u
}

// text is what is done at a point: one of the first kinds, a Borrow, a branch, a Return, anything.
func (c chance) text(some int) string {
	switch c.Intn(10) {
	case 0:
		return []string{"return", "if copy _4", "if true"}[c.Intn(3)]
	case 1, 2, 3:
		for {
			if s := kinds[c.Intn(len(kinds))]; strings.Contains(s, "&") {
				return s
			}
		}
	case 4, 5, 6:
		return kinds[c.Intn(some)]
	}
	return kinds[c.Intn(len(kinds))]
}

// rows are those with all of which about one of so many bits is turned.
func (c chance) rows(of api.FnCert, one int) api.FnCert {
	x := own(of)
	for _, rows := range [][]api.Row{x.Rows, x.Ranges, x.Moves} {
		for _, r := range rows {
			for k := range r.Width {
				if c.Intn(one) == 0 {
					r.Words[k/64] ^= 1 << (k % 64)
				}
			}
		}
	}
	return x
}

// more are rows into which some bits are put: into regions' alone, or into all.
func (c chance) more(of api.FnCert, all bool) api.FnCert {
	x := own(of)
	often := 1 + c.Intn(40)
	lists := [][]api.Row{x.Rows}
	if all {
		lists = append(lists, x.Ranges, x.Moves)
	}
	for _, rows := range lists {
		for _, r := range rows {
			for k := range r.Width {
				if c.Intn(often) == 0 {
					r.Words[k/64] |= 1 << (k % 64)
				}
			}
		}
	}
	return x
}

// P18.1, P18.2: graphs and rows by chance, against the oracle.
func TestGraphsByChance(t *testing.T) {
	c := byChance(181)
	met := map[string]int{}
	for n := range 50 {
		u := c.unit(1 + c.Intn(16) + n/48*25)
		if n%3 == 2 {
			u = c.mild(1 + c.Intn(12))
		}
		mustMay(t, u)
		for fn := range u.Fns {
			if fn != 1 && n > 1 {
				continue // all units have the same others
			}
			m := matterOf(t, u, fn)
			least := m.least()
			mustHold(m, c.rows(least, 3), c.rows(least, 30), c.rows(least, 200), c.rows(whole(t, u, fn), 20))
			for _, b := range m.broken(least) {
				met["in the least: "+names[b.Rule]]++
			}
			for _, b := range m.broken(c.rows(least, 30)) {
				met[names[b.Rule]]++
			}
			if len(m.broken(least)) == 0 {
				met["kept"]++
			}
		}
	}
	for what, often := range map[string]int{"in the least: end": 4, "in the least: break": 20, "in the least: use": 80, "live": 20, "flow": 20, "own": 20, "end": 4, "range": 20, "moved": 50, "break": 25, "use": 50, "kept": 6} {
		if met[what] < often {
			t.Errorf("%s: %d", what, met[what])
		}
	}
}

// program has Borrows of all kinds, loops, calls, and points that nobody reaches.
const program = "struct P { a: i64, b: Box<i64> } struct Q { p: P, t: bool } " +
	"fn main() -> i64 { let p = P { a: read(), b: box(2) }; let r = &mut p; let s = &mut *r; (*s).a = 4; let q = Q { p: P { a: 1, b: box(3) }, t: true }; let w = &q.p; let v = &w; " +
	"let b = box(&q); let c = box(&mut p); let i = 0; while i < 3 { i = i + 1; let z = pick(&(**v).a, &(**b).p.a, q.t); print(*z); if *z == i { continue; } swap(&mut *c); } h(v, w); j(); return k(&q, &i); i = 5; } " +
	"fn pick<'a, 'b: 'a>(x: &'a i64, y: &'b i64, t: bool) -> &'a i64 { if t { return x; } let z = &*y; return z; } " +
	"fn swap(x: &mut &mut P) -> i64 { let y = &mut (**x).b; **y = 5; return swap(x); } " +
	"fn h<'a, 'b>(x: &'a &'b P, y: &'b P) -> &'a P { let z = h(x, y); let u = &z; return *x; } " +
	"fn k<'x>(q: &Q, i: &'x i64) -> i64 { let e = box(i); let f = &e; let g = &**f; loop { let d = box(-1); let n = &d; if !(**g == **n) { break; } } return **g; } fn j() -> Box<i64> { return box(1); }"

// P18.1, P18.2: graphs that come of a text, against the oracle; which function is asked counts.
func TestLoweredProgram(t *testing.T) {
	u := lowered(t, program)
	c := byChance(182)
	for fn := range u.Fns {
		m := matterOf(t, u, fn)
		mustHold(m, c.rows(m.least(), 100))
	}
	mustKeepAll(t, u, -1)
}

// P18.1, P18.2: of a program its first function that breaks something is told, though others break something sooner in their own order.
func TestFirstFunction(t *testing.T) {
	u := unitOf(graphOf(1, 1, "&'0 i64; &'0 i64", "_0 = copy _1; return"), graphOf(0, 0, "i64; i64", "_0 = 3; return"))
	u.Fns[0] = graphOf(0, 0, "i64", "_0 = 1; return")
	mustMay(t, u)
	mustKeepAll(t, u, -1)
	var c api.Cert
	for fn := range u.Fns {
		c.Fns = append(c.Fns, leastOf(t, u, fn))
	}
	told := func(want api.Broken) {
		t.Helper()
		if b, kept, e := rules.Unit(u, c); b != want || kept != (want == api.Broken{}) || e != api.OK {
			t.Fatalf("%v, %v, %v; want %v", b, kept, e, want)
		}
	}
	told(api.Broken{})
	c.Fns[2].Moves[1] = rowOf(2)
	told(api.Broken{Fn: 2, Rule: api.RuleMoved, What: 1})
	c.Fns[1].Moves[0] = full(2)
	told(api.Broken{Fn: 1, At: 1, Rule: api.RuleUse})
	c.Fns[2] = api.FnCert{}
	told(api.Broken{Fn: 1, At: 1, Rule: api.RuleUse})
	c.Fns[0].Moves = nil
	told(api.Broken{Rule: api.RuleSize, What: 3})
	c.Fns[0], c.Fns[1] = leastOf(t, u, 0), leastOf(t, u, 1)
	told(api.Broken{Fn: 2, Rule: api.RuleSize, What: 3})
	u.Fns[2].Points[0] = pointOf("_0 = copy _1", 0)
	mustKeepAll(t, u, 2)
	u.Fns[1].Points[0] = pointOf("_0 = copy _0", 0)
	mustKeepAll(t, u, 1)
	u.Fns[1], u.Fns[2] = u.Fns[2], u.Fns[1]
	mustKeepAll(t, u, 1)
	slices.Reverse(u.Fns)
	u.Main = 2
	mustKeepAll(t, u, 0)
}
