package graph_test

import (
	"reflect"
	"testing"

	"loanword/api"
	"loanword/graph"
)

// P10.1: Own answers the same unit; it is Same.
func TestOwn(t *testing.T) {
	c := byChance(109)
	for range 200 {
		u := c.unit()
		x, e := graph.Own(u)
		if e != api.OK || !reflect.DeepEqual(own(x), own(u)) {
			t.Fatalf("Own: %+v, %v; want %+v", x, e, u)
		}
		if !graph.Same(u, x) || !graph.Same(x, u) || !graph.Same(u, u) {
			t.Fatalf("not Same: %+v", u)
		}
	}
}

// P10.1: whatever is changed makes it another one, if it may still be; what may not be is the same as nothing.
func TestSame(t *testing.T) {
	c := byChance(110)
	same, other, wrong := 0, 0, 0
	for range 200 {
		u := c.unit()
		for range 30 {
			x := c.spoilt(u)
			may, is := graph.May(x), reflect.DeepEqual(own(u), own(x))
			if graph.Same(u, x) != (may && is) || graph.Same(x, u) != (may && is) || graph.Same(x, x) != may {
				t.Fatalf("Same: %v, %v, %v; may %v, is %v", graph.Same(u, x), graph.Same(x, u), graph.Same(x, x), may, is)
			}
			switch {
			case !may:
				wrong++
			case is:
				same++
			default:
				other++
			}
		}
	}
	if same < 20 || other < 200 || wrong < 1000 {
		t.Errorf("same %d, other %d, wrong %d", same, other, wrong)
	}
}

// P10.1: each part of a unit counts, Names and At and all.
func TestSameLooksAtAll(t *testing.T) {
	base := func() api.Unit {
		u := world()
		u.Fns = append(u.Fns, graphOf(0, []string{"i64", "bool", "i64"}, "goto -> 2", "_2 = f1()", "_0 = 1 + 2", "_1 = ! true", "if true -> 1 else 2", "return"))
		return u
	}
	change := map[string]func(u *api.Unit){
		"main":           func(u *api.Unit) { u.Main = 2 },
		"a struct's":     func(u *api.Unit) { u.Structs[0].Name = "S" },
		"a field's":      func(u *api.Unit) { u.Structs[1].Fields[2].Name = "S" },
		"a field":        func(u *api.Unit) { u.Structs[1].Fields[2].Type = typeOf("i64") },
		"a field more":   func(u *api.Unit) { u.Structs[1].Fields = append(u.Structs[1].Fields, api.Field{Type: typeOf("i64")}) },
		"a struct more":  func(u *api.Unit) { u.Structs = append(u.Structs, structOf("i64")) },
		"a graph's":      func(u *api.Unit) { u.Fns[0].Name = "g" },
		"lives":          func(u *api.Unit) { u.Fns[0].Lives = 4 },
		"outlives":       func(u *api.Unit) { u.Fns[2].Outlives, u.Fns[2].Lives = []api.Outlives{{Long: 1}}, 2 },
		"outlives more":  func(u *api.Unit) { u.Fns[0] = withLives(u.Fns[0], 5, "4>0 4>1") },
		"params":         func(u *api.Unit) { u.Fns[2].Params = 1 },
		"a local":        func(u *api.Unit) { u.Fns[1].Locals[14] = typeOf("bool") },
		"a local's life": func(u *api.Unit) { u.Fns[0].Locals[4] = typeOf("&'2 #0") },
		"a name":         func(u *api.Unit) { u.Fns[1].Names[14] = "a" },
		"op":             func(u *api.Unit) { u.Fns[1].Points[4] = pointOf(4, "goto -> 0") },
		"at":             func(u *api.Unit) { u.Fns[1].Points[4].At = 0 },
		"next":           func(u *api.Unit) { u.Fns[1].Points[0].Next = 2 },
		"else":           func(u *api.Unit) { u.Fns[2].Points[4].Else = 4 },
		"sign":           func(u *api.Unit) { u.Fns[2].Points[2].Sign = "-" },
		"a":              func(u *api.Unit) { u.Fns[2].Points[2].A.N = 2 },
		"a's place":      func(u *api.Unit) { u.Fns[1].Points[3].A.Place = at("_4.*") },
		"b":              func(u *api.Unit) { u.Fns[2].Points[2].B.N = 3 },
		"b's kind":       func(u *api.Unit) { u.Fns[2].Points[2].B = operandOf("copy _0") },
		"args":           func(u *api.Unit) { u.Fns[1].Points[1].Args[0].N = 1 },
		"to":             func(u *api.Unit) { u.Fns[2].Points[2].To = at("_2") },
		"from":           func(u *api.Unit) { u.Fns[1].Points[2].From = at("_5.1.*") },
		"mut":            func(u *api.Unit) { u.Fns[1].Points[2] = pointOf(2, "_4 = &mut _2.*") },
		"fn":             func(u *api.Unit) { u.Fns[2].Points[1].Fn = 2 },
		"struct":         func(u *api.Unit) { u.Fns[1].Points[1] = pointOf(1, "_5 = #0(1, move _2)") },
		"a point more":   func(u *api.Unit) { u.Fns[2].Points = append(u.Fns[2].Points, api.Point{Op: api.Return}) },
		"a point less":   func(u *api.Unit) { u.Fns[2].Points = u.Fns[2].Points[:5] },
		"a graph more":   func(u *api.Unit) { u.Fns = append(u.Fns, u.Fns[1]) },
		"a graph less":   func(u *api.Unit) { u.Fns = u.Fns[:2] },
		"nothing's name": func(u *api.Unit) { u.Fns[2].Name = "" },
	}
	for what, change := range change {
		u, x := base(), base()
		change(&x)
		want := what == "nothing's name"
		if !graph.May(x) {
			t.Errorf("%s: may not be", what)
		}
		if graph.Same(u, x) != want || graph.Same(x, u) != want {
			t.Errorf("%s: Same is %v", what, !want)
		}
	}
}

// Lists of nothing and none are the same.
func TestSameOfNothing(t *testing.T) {
	u := api.Unit{Fns: []api.Graph{graphOf(0, []string{"i64"}, "_0 = f0()", "print 1", "return")}}
	x := own(u)
	x.Structs, x.Fns[0].Outlives = []api.Struct{}, []api.Outlives{}
	for q := range x.Fns[0].Points {
		p := &x.Fns[0].Points[q]
		p.Args, p.To.Path, p.From.Path, p.A.Place.Path, p.B.Place.Path = []api.Operand{}, []api.Step{}, []api.Step{}, []api.Step{}, []api.Step{}
	}
	x.Fns[0].Locals[0].Of = []api.Type{}
	if !mustCheck(t, x) || !graph.Same(u, x) || !graph.Same(x, u) {
		t.Errorf("%+v", x)
	}
	if y, e := graph.Own(x); e != api.OK || !graph.Same(u, y) {
		t.Errorf("%+v, %v", y, e)
	}
}
