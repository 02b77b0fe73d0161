package outlive_test

import (
	"fmt"
	"maps"
	"math/rand"
	"slices"
	"strings"
	"testing"

	"loanword/api"
	"loanword/place"
	"loanword/types"
)

// chance makes constraints, rows and units.
type chance struct{ *rand.Rand }

func byChance(seed int64) chance { return chance{rand.New(rand.NewSource(seed))} }

func pick[T any](c chance, l ...T) T { return l[c.Intn(len(l))] }

// constraints are many of them between so many regions.
func (c chance) constraints(count, many int) []api.Constraint {
	var l []api.Constraint
	for range many {
		l = append(l, api.Constraint{Long: c.Intn(count), Short: c.Intn(count)})
	}
	return l
}

// row is a row's text: few bits, many, or those of another one but for some.
func (c chance) row(width int, others []string) string {
	if len(others) > 0 && c.Intn(2) == 0 {
		b := []byte(pick(c, others...))
		if c.Intn(2) == 0 {
			b[c.Intn(width)] = '1'
		}
		return string(b)
	}
	var b strings.Builder
	often := c.Intn(5)
	for b.Len() < width {
		if c.Intn(4) < often {
			b.WriteByte('1')
		} else {
			b.WriteByte('0')
		}
	}
	return b.String()
}

func (c chance) rows(count, width int) []api.Row {
	var rows []api.Row
	for range count {
		rows = append(rows, rowOf(c.row(width, nil)))
	}
	return rows
}

// unit is one that may be, its points of those Ops that say something, and some others.
func (c chance) unit() api.Unit {
	u := api.Unit{Structs: structs}
	n := 1 + c.Intn(4)
	u.Main = c.Intn(n)
	for fn := range n {
		u.Fns = append(u.Fns, c.head(fn == u.Main))
	}
	for fn := range u.Fns {
		c.points(u, fn)
	}
	return u
}

func (c chance) head(main bool) api.Graph {
	if main {
		return api.Graph{Locals: append([]api.Type{typeOf("i64")}, c.types(0, -1, 3+c.Intn(8))...)}
	}
	g := api.Graph{Lives: c.Intn(4), Params: c.Intn(4)}
	g.Locals = append(c.types(g.Lives, 0, g.Params+1), c.types(g.Lives, -1, 3+c.Intn(8))...)
	says := map[api.Outlives]bool{}
	for _, t := range g.Locals[:g.Params+1] {
		l := types.Regions(t)
		for i := range l {
			for j := range i {
				says[api.Outlives{Long: l[i], Short: l[j]}] = true
			}
		}
	}
	if g.Lives > 1 && c.Intn(2) == 0 {
		says[api.Outlives{Long: c.Intn(g.Lives), Short: c.Intn(g.Lives)}] = true
	}
	g.Outlives = followed(says)
	return g
}

// followed is all that follows of what is said, sorted.
func followed(says map[api.Outlives]bool) []api.Outlives {
	for before := -1; before != len(says); {
		before = len(says)
		for a := range maps.Clone(says) {
			for b := range maps.Clone(says) {
				if a.Short == b.Long {
					says[api.Outlives{Long: a.Long, Short: b.Short}] = true
				}
			}
		}
	}
	var l []api.Outlives
	for o := range says {
		if o.Long != o.Short {
			l = append(l, o)
		}
	}
	slices.SortFunc(l, func(a, b api.Outlives) int { return (a.Long-b.Long)*100 + a.Short - b.Short })
	return l
}

// types are so many types with regions from least to lives - 1.
func (c chance) types(lives, least, many int) []api.Type {
	var l []api.Type
	for range many {
		l = append(l, c.typ(lives, least, 5))
	}
	return l
}

func (c chance) typ(lives, least, deep int) api.Type {
	switch k := c.Intn(8); {
	case k == 0 && deep > 0:
		return api.Type{Kind: api.TyBox, Of: []api.Type{c.typ(lives, least, deep-1)}}
	case k < 6 && deep > 0 && least < lives:
		return api.Type{Kind: api.TyRef, Mut: c.Intn(2) == 0, Region: least + c.Intn(lives-least), Of: []api.Type{c.typ(lives, least, deep-1)}}
	case k == 6:
		return api.Type{Kind: api.TyStruct, Struct: c.Intn(len(structs))}
	}
	return typeOf("i64")
}

// spot is a place of a graph, its type there, and how it goes (layer 9).
type spot struct {
	place api.Place
	typ   api.Type
	way   []int
}

// isCopied, isMoved: may an operand be it? isLaid: may it be assigned?
func (s spot) isCopied() bool { return types.Copies(s.typ) }
func (s spot) isMoved() bool {
	return !s.isCopied() && !slices.Contains(s.way, 2) && !slices.Contains(s.way, 3)
}
func (s spot) isLaid() bool { return !slices.Contains(s.way, 3) }

// spots are all places of a graph of up to so many steps.
func spots(g *api.Graph, most int) []spot {
	var l []spot
	for local := range g.Locals {
		last := []api.Place{{Local: local}}
		for k := 0; len(last) > 0; k++ {
			var longer []api.Place
			for _, p := range last {
				t, _ := place.Type(structs, g.Locals, p)
				way, _ := place.Goes(structs, g.Locals, p)
				l = append(l, spot{p, t, way})
				for step := api.Deref; k < most && step < 3; step++ {
					q := api.Place{Local: local, Path: append(slices.Clone(p.Path), step)}
					if place.May(structs, g.Locals, q) {
						longer = append(longer, q)
					}
				}
			}
			last = longer
		}
	}
	return l
}

// points lays points into a graph, some of which go on anywhere.
func (c chance) points(u api.Unit, fn int) {
	g := &u.Fns[fn]
	n := 1 + c.Intn(15)
	for q := range n {
		p := c.point(u, g, spots(g, 4))
		if p.Op != api.Return {
			p.Next = pick(c, q+1, c.Intn(n)) % n
		}
		p.At = c.Intn(1000)
		g.Points = append(g.Points, p)
	}
	g.Names = make([]string, len(g.Locals))
}

func (c chance) point(u api.Unit, g *api.Graph, l []spot) api.Point {
	x := pick(c, l...)
	for range 3 { // those that go far are met more often
		if y := pick(c, l...); len(y.way)+len(types.Regions(y.typ)) > len(x.way)+len(types.Regions(x.typ)) {
			x = y
		}
	}
	switch k := c.Intn(10); {
	case k < 3 && (x.isCopied() || x.isMoved()):
		return api.Point{Op: api.Use, A: operandAt(x), To: c.target(g, l, x.typ)}
	case k < 4 && (x.isCopied() || x.isMoved()):
		return api.Point{Op: api.Box, A: operandAt(x), To: c.target(g, l, api.Type{Kind: api.TyBox, Of: []api.Type{x.typ}})}
	case k < 7:
		p := api.Point{Op: api.Borrow, From: x.place, Mut: x.isLaid() && c.Intn(2) == 0}
		p.To = c.target(g, l, api.Type{Kind: api.TyRef, Mut: p.Mut, Of: []api.Type{x.typ}})
		return p
	case k < 9:
		p := api.Point{Op: api.Call, Fn: c.Intn(len(u.Fns))}
		called := u.Fns[p.Fn]
		for _, t := range called.Locals[1 : 1+called.Params] {
			p.Args = append(p.Args, c.handed(g, l, t))
		}
		p.To = c.target(g, l, called.Locals[0])
		return p
	}
	return pick(c, api.Point{Op: api.Goto}, api.Point{Op: api.Return}, api.Point{Op: api.Read, To: c.target(g, l, typeOf("i64"))}, api.Point{Op: api.Dead, From: api.Place{Local: 1 + c.Intn(len(g.Locals)-1)}})
}

func operandAt(x spot) api.Operand {
	if x.isCopied() {
		return api.Operand{Kind: api.Copy, Place: x.place}
	}
	return api.Operand{Kind: api.Move, Place: x.place}
}

// target is a place that may be assigned, of a type like t: one that is there, or a new local.
func (c chance) target(g *api.Graph, l []spot, t api.Type) api.Place {
	fit := slices.DeleteFunc(slices.Clone(l), func(x spot) bool { return !x.isLaid() || !types.Alike(x.typ, t) })
	if len(fit) > 0 && c.Intn(4) > 0 {
		return pick(c, fit...).place
	}
	return c.local(g, t)
}

// handed is an operand of a type like t.
func (c chance) handed(g *api.Graph, l []spot, t api.Type) api.Operand {
	if t.Kind == api.TyInt && c.Intn(3) == 0 {
		return api.Operand{Kind: api.ConstInt, N: c.Int63()}
	}
	fit := slices.DeleteFunc(slices.Clone(l), func(x spot) bool {
		return !types.Alike(x.typ, t) || !x.isCopied() && !x.isMoved()
	})
	if len(fit) > 0 && c.Intn(4) > 0 {
		return operandAt(pick(c, fit...))
	}
	return operandAt(spot{place: c.local(g, t), typ: t})
}

// local is a new local of a type like t, some of its references with a lifetime.
func (c chance) local(g *api.Graph, t api.Type) api.Place {
	var regions []int
	for range types.Regions(t) {
		regions = append(regions, pick(c, -1, -1, c.Intn(g.Lives+1)-1))
	}
	t, e := types.Anew(t, regions...)
	must(e == api.OK, "a local's regions")
	g.Locals = append(g.Locals, t)
	return api.Place{Local: len(g.Locals) - 1}
}

// P15.1: units by chance, against the oracle.
func TestUnitsByChance(t *testing.T) {
	c := byChance(156)
	met := map[string]int{}
	for range 400 {
		u := c.unit()
		mustMay(t, u)
		for fn, g := range u.Fns {
			l := mustHold(t, u, fn)
			for q, p := range g.Points {
				met[fmt.Sprint("Op ", p.Op)]++
				count(met, p, asked{t, u, fn}.at(q), g.Lives)
			}
			if len(l) > 20 {
				met["long lists"]++
			}
		}
	}
	for _, what := range []string{
		fmt.Sprint("Op ", api.Use), fmt.Sprint("Op ", api.Box), fmt.Sprint("Op ", api.Borrow), fmt.Sprint("Op ", api.Call), fmt.Sprint("Op ", api.Goto),
		"To behind a Deref", "From behind two Derefs", "both ways", "again", "of itself", "of a lifetime", "long lists",
	} {
		if met[what] < 40 {
			t.Errorf("%s: %d", what, met[what])
		}
	}
}

// count tells what was met at a point that says something.
func count(met map[string]int, p api.Point, l []api.Constraint, lives int) {
	if len(l) == 0 {
		return
	}
	if slices.Contains(p.To.Path, api.Deref) {
		met["To behind a Deref"]++
	}
	if len(p.From.Path) > 1 {
		met["From behind two Derefs"]++
	}
	for k, c := range l {
		switch {
		case slices.Contains(l[:k], c):
			met["again"]++
		case c.Long == c.Short:
			met["of itself"]++
		case slices.Contains(l[:k], api.Constraint{Long: c.Short, Short: c.Long}):
			met["both ways"]++
		}
		if c.Long < lives {
			met["of a lifetime"]++
		}
	}
}

// program has references of all kinds in locals, lent and called.
const program = "struct P { a: i64, b: Box<i64> } struct Q { p: P, t: bool } " +
	"fn main() -> i64 { let p = P { a: read(), b: box(2) }; let r = &mut p; let s = &mut *r; (*s).a = 4; let q = Q { p: P { a: 1, b: box(3) }, t: true }; let w = &q.p; let v = &w; " +
	"let b = box(&q); let c = box(&mut p); let i = 0; while i < 3 { i = i + 1; let z = pick(&(**v).a, &(**b).p.a, q.t); print(*z); swap(&mut *c); } h(v, w); return k(&q, &i); } " +
	"fn pick<'a, 'b: 'a>(x: &'a i64, y: &'b i64, t: bool) -> &'a i64 { if t { return x; } let z = &*y; return z; } " +
	"fn swap(x: &mut &mut P) -> i64 { let y = &mut (**x).b; **y = 5; return swap(x); } " +
	"fn h<'a, 'b>(x: &'a &'b P, y: &'b P) -> &'a P { let z = h(x, y); let u = &z; return *x; } " +
	"fn k<'x>(q: &Q, i: &'x i64) -> i64 { let e = box(i); let f = &e; let g = &**f; return **g; }"

// P15.1: a text's graphs, against the oracle.
func TestProgramHolds(t *testing.T) {
	u := lowered(t, program)
	for fn := range u.Fns {
		if l := mustHold(t, u, fn); len(l) == 0 {
			t.Errorf("the function %d says nothing", fn)
		}
	}
}
