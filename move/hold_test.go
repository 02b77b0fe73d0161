package move_test

import (
	"fmt"
	"math/rand"
	"slices"
	"strings"
	"testing"

	"loanword/api"
	"loanword/graph"
	"loanword/place"
)

// placesOf are all places of a graph of up to so many steps.
func placesOf(u api.Unit, fn, most int) []api.Place {
	var l []api.Place
	for local := range u.Fns[fn].Locals {
		last := []api.Place{{Local: local}}
		for k := 0; len(last) > 0; k++ {
			l = append(l, last...)
			var longer []api.Place
			for _, p := range last {
				for step := api.Deref; k < most && step < 3; step++ {
					q := api.Place{Local: local, Path: append(slices.Clone(p.Path), step)}
					if place.May(u.Structs, u.Fns[fn].Locals, q) {
						longer = append(longer, q)
					}
				}
			}
			last = longer
		}
	}
	return l
}

// The places of one kind of which operands, and what is assigned, are made: next to one another, one in the other, apart, by way of references.
var (
	ofStruct  = []string{"_1", "_1.1.*", "_3.*"}
	ofInner   = []string{"_1.0", "_1.1.*.0", "_4"}
	ofBox     = []string{"_1.1", "_1.1.*.1", "_3"}
	ofNumber  = []string{"_1.0.0", "_1.1.*.0.0", "_1.0.1.*", "_2.*.0.0", "_5.*.*.0", "_4.0", "_0"}
	allLocals = "i64; #1; &mut #1; Box<#1>; #0; Box<&mut #0>"
)

// P17.1, P17.2, P17.3: Calls and structs of three operands that move and copy, each with each, into each place.
func TestAllOperands(t *testing.T) {
	var points []string
	for _, a := range ofInner {
		for _, b := range ofStruct {
			for _, c := range ofBox {
				for _, to := range append(ofNumber, "_2.*.1.*.0.0") {
					points = append(points, fmt.Sprintf("%s = f2(move %s, move %s, move %s)", to, a, b, c))
				}
			}
			for _, d := range ofNumber {
				for _, to := range append(ofBox, "_2.*.1") {
					points = append(points, fmt.Sprintf("%s = f3(move %s, move %s, copy %s)", to, b, a, d), fmt.Sprintf("%s = f4(move %s, copy %s, move %s)", to, a, d, b))
				}
			}
		}
		for _, c := range ofBox {
			for _, to := range append(ofStruct, "_2.*") {
				points = append(points, fmt.Sprintf("%s = #1(move %s, move %s, copy %s.2)", to, a, c, ofStruct[len(points)%3]))
			}
		}
	}
	if len(points) != 27*8+9*7*4*2+9*4 {
		t.Errorf("%d points", len(points))
	}
	u := unitOf(graphOf(0, 0, allLocals, strings.Join(points, "; ")+"; return"),
		graphOf(0, 3, "i64; #0; #1; Box<#1>", "return"), graphOf(0, 3, "Box<#1>; #1; #0; i64", "return"), graphOf(0, 3, "Box<#1>; #0; i64; #1", "return"))
	mustMay(t, u)
	mustHoldEach(t, u)
}

// mustHoldEach asks all of a great graph against the oracle, each point in a unit of its own, with a point behind it that has many places.
func mustHoldEach(t *testing.T, u api.Unit) {
	t.Helper()
	const many = "_0 = f2(move _4, move _1.1.*, move _3); print copy _1.0.1.*; print copy _1.1.*.1.*.0.0; drop _1.1.*.1; if copy _3.*.2; print copy _5.*.*.0; return"
	v := unitOf(graphOf(0, 0, allLocals, "return; return; "+many))
	v.Fns = append(v.Fns, u.Fns[2:]...)
	again := 0
	for _, p := range u.Fns[1].Points {
		if p.Next != 0 {
			p.Next = 1
		}
		v.Fns[1].Points[0] = p
		x := ask(t, v, 1)
		mustPaths(t, v, 1, strings.Join(x.paths, " "))
		mustHoldAt(x, 0)
		if x.again(x.deeds(0)) >= 0 {
			again++
		}
	}
	if again < 100 || again > len(u.Fns[1].Points)-100 {
		t.Errorf("%d of %d", again, len(u.Fns[1].Points))
	}
}

// P17.1: all places of up to four steps, in the scene: which path each stands on; of one of them alone, which paths there are, and what is done as it is lent.
func TestAllPlaces(t *testing.T) {
	u := scene("return")
	for _, points := range []string{"return", "return" + behind} {
		x := mustHold(t, scene(points), 1)
		are, none := mustHoldPlaces(x, placesOf(u, 1, 4))
		if are < 70 || none < 5 {
			t.Errorf("%d stand on a path, %d on none", are, none)
		}
	}
	for n, p := range placesOf(u, 1, 5) {
		if n%3 != 0 && len(p.Path) > 2 {
			continue
		}
		v := scene("return")
		lend(t, v, p)
		mustMay(t, v)
		mustHoldAt(mustLie(t, v), 0)
	}
}

// mustLie asks for the paths of a graph against the oracle.
func mustLie(t *testing.T, u api.Unit) asked {
	t.Helper()
	x := ask(t, u, 1)
	mustPaths(t, u, 1, strings.Join(x.paths, " "))
	return x
}

// lend lays a Borrow of a place, into a new local, ahead of the points of graph 1, which must be a Return alone.
func lend(t *testing.T, u api.Unit, from api.Place) {
	t.Helper()
	g := &u.Fns[1]
	of, e := graph.Type(u, 1, from)
	must(e == api.OK, place.Text(from))
	g.Locals = append(g.Locals, api.Type{Kind: api.TyRef, Region: -1, Of: []api.Type{free(of)}})
	g.Names = append(g.Names, "")
	g.Points = []api.Point{{Op: api.Borrow, To: api.Place{Local: len(g.Locals) - 1}, From: from, Next: 1}, {Op: api.Return}}
}

// free is a type whose references have no region yet.
func free(t api.Type) api.Type {
	if t.Kind == api.TyRef {
		t.Region = -1
	}
	for k, x := range t.Of {
		t.Of[k] = free(x)
	}
	return t
}

// chance makes graphs and lists of paths.
type chance struct{ *rand.Rand }

func byChance(seed int64) chance { return chance{rand.New(rand.NewSource(seed))} }

// unit is the scene with so many points of all kinds in its graph 1, of which some go on to the next one and some anywhere.
func (c chance) unit(points int) api.Unit {
	var l []string
	some := 1 + c.Intn(len(mentions))
	for q := range points {
		to := func() int {
			if c.Intn(2) == 0 {
				return c.Intn(points)
			}
			return (q + 1) % points
		}
		text := c.text(some)
		switch {
		case strings.HasPrefix(text, "if"):
			text = fmt.Sprintf("%s -> %d else %d", text, to(), to())
		case text != "return":
			text = fmt.Sprintf("%s -> %d", text, to())
		}
		l = append(l, text)
	}
	return scene(strings.Join(l, "; "))
}

// text is what is done at a point: something that moves, one of the first mentions, a branch, anything.
func (c chance) text(some int) string {
	switch c.Intn(9) {
	case 0:
		return "if copy _4"
	case 1, 2:
		return mentions[c.Intn(len(mentions))].text
	case 3:
		for {
			if s := agains[c.Intn(len(agains))][0]; !strings.Contains(s, "_31") {
				return s
			}
		}
	case 4, 5:
		for {
			if s := mentions[c.Intn(len(mentions))].text; strings.Contains(s, "move") {
				return s
			}
		}
	}
	return mentions[c.Intn(some)].text
}

// paths are some of so many, rising.
func (c chance) paths(count int) []int {
	var l []int
	often := c.Intn(5)
	for n := range count {
		if c.Intn(4) < often {
			l = append(l, n)
		}
	}
	return l
}

// P17.1 to P17.3: graphs by chance.
func TestGraphsByChance(t *testing.T) {
	c := byChance(171)
	again := 0
	for n := range 60 {
		u := c.unit(1 + c.Intn(14) + n/57*40)
		mustMay(t, u)
		for fn := range u.Fns {
			if fn != 1 && n > 5 {
				continue // all units have the same others
			}
			paths := len(ask(t, u, fn).paths)
			x := mustHold(t, u, fn, c.paths(paths), c.paths(paths), c.paths(paths))
			for q := range x.texts {
				if x.again(x.deeds(q)) >= 0 {
					again++
				}
			}
		}
	}
	if again < 25 {
		t.Errorf("%d again", again)
	}
}

// program has all kinds of points, values that are moved out of structs and boxes, and points that nobody reaches.
const program = "struct P { a: i64, b: Box<i64> } struct Q { p: P, t: bool } " +
	"fn main() -> i64 { let p = P { a: read(), b: box(2) }; let r = &mut p; let s = &mut *r; (*s).a = 4; let q = Q { p: P { a: 1, b: box(3) }, t: true }; let w = &q.p; let v = &w; " +
	"let b = box(&q); let c = box(&mut p); let i = 0; while i < 3 { i = i + 1; let z = pick(&(**v).a, &(**b).p.a, q.t); print(*z); if *z == i { continue; } swap(&mut *c); } h(v, w); j(); return k(&q, &i); i = 5; } " +
	"fn pick<'a, 'b: 'a>(x: &'a i64, y: &'b i64, t: bool) -> &'a i64 { if t { return x; } let z = &*y; return z; } " +
	"fn swap(x: &mut &mut P) -> i64 { let y = &mut (**x).b; **y = 5; return swap(x); } " +
	"fn h<'a, 'b>(x: &'a &'b P, y: &'b P) -> &'a P { let z = h(x, y); let u = &z; return *x; } " +
	"fn k<'x>(q: &Q, i: &'x i64) -> i64 { let e = box(i); let f = &e; let g = &**f; loop { let d = box(-1); let n = &d; if !(**g == **n) { break; } } return **g; } fn j() -> Box<i64> { return box(1); } " +
	"fn m(q: Q, b: Box<P>) -> Q { let x = q.p.b; q.p = *b; *b = P { a: *x, b: x }; let y = q.p; q.p.b = y.b; q.t = false; return Q { p: two(q.p, y), t: q.t }; } fn two(p: P, q: P) -> P { if p.a < 1 { return p; } return q; }"

// P17.1 to P17.3: graphs that come of a text; which function is asked counts.
func TestLoweredPrograms(t *testing.T) {
	u := lowered(t, program)
	c := byChance(172)
	ops := map[api.PointOp]bool{}
	for fn, g := range u.Fns {
		paths := len(ask(t, u, fn).paths)
		x := mustHold(t, u, fn, c.paths(paths), c.paths(paths))
		mustHoldPlaces(x, placesOf(u, fn, 3))
		for _, p := range g.Points {
			ops[p.Op] = true
		}
	}
	if len(ops) != 14 {
		t.Errorf("Ops %v", ops)
	}
}
