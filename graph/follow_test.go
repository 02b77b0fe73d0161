package graph_test

import (
	"slices"
	"testing"

	"loanword/api"
	"loanword/graph"
	"loanword/types"
)

// P10.4: each place that a point has is one of its graph: its type is told; and operands' types are what their kinds ask.
func TestPlacesAreTheGraphs(t *testing.T) {
	c := byChance(111)
	taken := 0
	for range 60 {
		u := c.unit()
		for range 20 {
			x := c.spoilt(u)
			if !graph.May(x) {
				continue
			}
			taken++
			for fn, g := range x.Fns {
				for q, p := range g.Points {
					for _, place := range placesOf(p) {
						if _, e := graph.Type(x, fn, place); e != api.OK {
							t.Fatalf("%+v: Type(%v): %v", p, place, e)
						}
					}
					mustBeAsked(t, x, fn, q)
				}
			}
		}
	}
	if taken < 100 {
		t.Errorf("only %d", taken)
	}
}

// mustBeAsked asks what the operands of a point are by what is exported alone.
func mustBeAsked(t *testing.T, u api.Unit, fn, q int) {
	t.Helper()
	l, e := graph.Operands(u, fn, q)
	if e != api.OK {
		t.Fatal(e)
	}
	var is []api.Type
	for _, o := range l {
		x := map[api.OperandKind]api.Type{api.ConstInt: typeOf("i64"), api.ConstBool: typeOf("bool")}[o.Kind]
		if o.Kind == api.Copy || o.Kind == api.Move {
			x, _ = graph.Type(u, fn, o.Place)
			if types.Copies(x) != (o.Kind == api.Copy) {
				t.Fatalf("%+v is of type %v", o, x)
			}
		}
		is = append(is, x)
	}
	p := u.Fns[fn].Points[q]
	var want []api.Type
	to, _ := graph.Type(u, fn, p.To)
	switch p.Op {
	case api.Use, api.Unary:
		want = []api.Type{to}
	case api.Box:
		want = to.Of
	case api.Binary:
		want = []api.Type{is[0], is[0]}
	case api.Make:
		want, _ = types.Fields(u.Structs, to)
	case api.Call:
		g := u.Fns[p.Fn]
		want = g.Locals[1 : 1+g.Params]
	case api.Print:
		want = typesOf("i64")
	case api.Branch:
		want = typesOf("bool")
	}
	if !slices.EqualFunc(is, want, types.Alike) {
		t.Fatalf("%+v: operands of types %v; want %v", p, is, want)
	}
}

// P10.4: with one point's Next turned to another point a unit may still be. (A Return has none to turn.)
func TestNextTurned(t *testing.T) {
	c := byChance(112)
	for range 40 {
		u := c.unit()
		for fn := range u.Fns {
			points := u.Fns[fn].Points
			for q := range points {
				was := points[q].Next
				for next := range points {
					points[q].Next = next
					if graph.May(u) != (points[q].Op != api.Return || next == 0) {
						t.Fatalf("%+v of %d", points[q], len(points))
					}
				}
				points[q].Next = len(points)
				if fn2, q2, e := graph.Check(u); fn2 != fn || q2 != q || e != api.ErrGraph {
					t.Fatalf("%d, %d, %v", fn2, q2, e)
				}
				points[q].Next = was
			}
		}
	}
}

// P10.4: with a local more, of any type without lifetimes, a unit may still be, as long as there may be one more.
func TestOneLocalMore(t *testing.T) {
	c := byChance(113)
	for range 100 {
		u := c.unit()
		for fn := range u.Fns {
			x := own(u)
			g := &x.Fns[fn]
			for len(g.Locals) < api.MaxLocals {
				g.Locals = append(g.Locals, c.typ(len(x.Structs), -1, 0, 6))
				g.Names = append(g.Names, pick(c, "", "x", "new"))
				if len(g.Locals)%31 < 8 && !graph.May(x) {
					t.Fatalf("%d locals: %+v", len(g.Locals), g.Locals)
				}
			}
			g.Locals, g.Names = append(g.Locals, typeOf("i64")), append(g.Names, "")
			if f, q, e := graph.Check(x); f != fn || q != -1 || e != api.ErrGraph {
				t.Fatalf("%d, %d, %v", f, q, e)
			}
		}
	}
}
