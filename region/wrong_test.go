package region_test

import (
	"fmt"
	"math"
	"reflect"
	"slices"
	"testing"

	"loanword/api"
	"loanword/graph"
	"loanword/region"
)

// mustRefuse asks that all calls refuse a function with ErrArg, and answer nothing beside it; at this point, and at each that is there.
func mustRefuse(t *testing.T, what string, u api.Unit, fn, point int) {
	t.Helper()
	r, e := region.Of(u, fn)
	if e != api.ErrArg || !reflect.DeepEqual(r, api.Regions{}) {
		t.Errorf("%s: Of: %+v, %v", what, r, e)
	}
	x, e := region.Place(u, fn, api.Place{})
	mustNoType(t, what+": Place", x, e, api.ErrArg)
	mustNotBorrow(t, u, fn, point, api.ErrArg)
	mustNotCall(t, u, fn, point, api.ErrArg)
}

// P13.1, P13.2: no such function.
func TestWrongFunctions(t *testing.T) {
	for _, fn := range []int{math.MinInt, -1, 3, 4, api.MaxItems, math.MaxInt} {
		for q := range 3 {
			mustRefuse(t, fmt.Sprint("function ", fn), example(), fn, q)
		}
	}
}

// P13.2: no such point; those of one graph are none of a smaller one.
func TestWrongPoints(t *testing.T) {
	u := example()
	for fn, points := range []int{1, 3, 1} {
		for _, q := range []int{math.MinInt, -1, points, points + 1, api.MaxPoints, math.MaxInt} {
			mustNotBorrow(t, u, fn, q, api.ErrArg)
			mustNotCall(t, u, fn, q, api.ErrArg)
		}
		mustNotBorrow(t, u, fn, points-1, api.ErrOp)
		mustNotCall(t, u, fn, points-1, api.ErrOp)
	}
}

// P13.2: points of every Op but the one that is asked for.
func TestWrongOps(t *testing.T) {
	u := lowered(t, "struct P { a: i64, b: Box<i64> } fn main() -> i64 { let p = P { a: read(), b: box(2) }; let r = &mut p; let i = 0; while i < 3 { i = i + 1; { let b = box(i); if !(*b == 2) { continue; } } } (*r).a = -4; print(g(&p)); p.b = box(1); return 0; } fn g(x: &P) -> i64 { return (*x).a; }")
	met := map[api.PointOp]bool{}
	for fn, g := range u.Fns {
		for q, p := range g.Points {
			met[p.Op] = true
			if p.Op != api.Borrow {
				mustNotBorrow(t, u, fn, q, api.ErrOp)
			}
			if p.Op != api.Call {
				mustNotCall(t, u, fn, q, api.ErrOp)
			}
		}
	}
	u = unitOf(graphOf(0, 0, "Box<i64>", api.Point{Op: api.Drop, From: at("_0")}, goBack))
	mustMay(t, u)
	mustNotBorrow(t, u, 1, 0, api.ErrOp)
	mustNotCall(t, u, 1, 0, api.ErrOp)
	met[api.Drop] = true
	for op := api.Use; op <= api.Return; op++ {
		if !met[op] {
			t.Errorf("no point of the Op %d", op)
		}
	}
}

// P13.1: places that may not be there.
func TestWrongPlaces(t *testing.T) {
	f := graphOf(1, 1, "&'0 i64; &'0 #1; Box<&i64>; &mut #0; bool", goBack)
	u := unitOf(f)
	u.Structs = structs
	mustMay(t, u)
	deref := api.Deref
	for _, p := range []api.Place{
		{Local: -1}, {Local: 5}, {Local: math.MaxInt}, {Local: math.MinInt}, {Local: 5, Path: []api.Step{deref}},
		{Local: 0, Path: []api.Step{0}}, {Local: 0, Path: []api.Step{deref, deref}}, {Local: 1, Path: []api.Step{1}}, {Local: 1, Path: []api.Step{deref, 3}}, {Local: 1, Path: []api.Step{deref, -2}}, {Local: 1, Path: []api.Step{deref, deref}},
		{Local: 1, Path: []api.Step{deref, 1, 0}}, {Local: 1, Path: []api.Step{deref, 1, deref, 1, deref, 1, deref, 1, deref}}, {Local: 2, Path: []api.Step{deref, deref, deref}}, {Local: 3, Path: []api.Step{deref, 2}}, {Local: 3, Path: []api.Step{deref, math.MaxInt}}, {Local: 4, Path: []api.Step{deref}},
		{Local: 4, Path: make([]api.Step, 1)}, {Local: 1, Path: make([]api.Step, 1<<14)},
	} {
		x, e := region.Place(u, 1, p)
		mustNoType(t, fmt.Sprintf("%d, %.60v", p.Local, p.Path), x, e, api.ErrArg)
	}
	x, e := region.Place(u, 1, api.Place{Local: 1, Path: []api.Step{deref, 1, deref, 1, deref, 1, deref, 1}})
	mustType(t, "eight steps", x, e, "Box<#1>")
	x, e = region.Place(u, 0, api.Place{Local: 1})
	mustNoType(t, "another graph's", x, e, api.ErrArg)
}

// P13.1, P13.2: a unit that may not be is refused, whichever of its functions is asked for.
func TestWrongUnits(t *testing.T) {
	mustRefuse(t, "nothing", api.Unit{}, 0, 0)
	for what, change := range map[string]func(u *api.Unit){
		"no main":                       func(u *api.Unit) { u.Main = 3 },
		"a main with a lifetime":        func(u *api.Unit) { u.Main = 1 },
		"lifetimes below 0":             func(u *api.Unit) { u.Fns[2].Lives = -1 },
		"more lifetimes than may be":    func(u *api.Unit) { u.Fns[2].Lives = api.MaxLives + 1 },
		"very many lifetimes":           func(u *api.Unit) { u.Fns[2].Lives = math.MaxInt },
		"a region that is no lifetime":  func(u *api.Unit) { u.Fns[1].Locals[2].Of[0].Region = 1 },
		"a region below -1":             func(u *api.Unit) { u.Fns[1].Locals[2].Of[0].Region = -2 },
		"an answer without a region":    func(u *api.Unit) { u.Fns[1].Locals[0].Region = -1 },
		"a parameter without a region":  func(u *api.Unit) { u.Fns[1].Locals[1].Region = -1 },
		"a type that is none":           func(u *api.Unit) { u.Fns[1].Locals[3].Of[0].Of = nil },
		"a reference with two types":    func(u *api.Unit) { u.Fns[1].Locals[3].Of = append(u.Fns[1].Locals[3].Of, typeOf("i64")) },
		"a struct that is not there":    func(u *api.Unit) { u.Fns[1].Locals[2] = typeOf("#0") },
		"a type that is too deep":       func(u *api.Unit) { u.Fns[1].Locals[2] = deep("&", api.MaxNest+1) },
		"no locals":                     func(u *api.Unit) { u.Fns[2].Locals, u.Fns[2].Names = nil, nil },
		"more parameters than locals":   func(u *api.Unit) { u.Fns[2].Params = 1 },
		"a name too few":                func(u *api.Unit) { u.Fns[1].Names = u.Fns[1].Names[:3] },
		"no points":                     func(u *api.Unit) { u.Fns[2].Points = nil },
		"Next beyond the last":          func(u *api.Unit) { u.Fns[1].Points[1].Next = 3 },
		"no Op":                         func(u *api.Unit) { u.Fns[1].Points[2].Op = api.NoPoint },
		"a Borrow of what is not there": func(u *api.Unit) { u.Fns[1].Points[0].From = at("_4") },
		"a Borrow of another type":      func(u *api.Unit) { u.Fns[1].Points[0].From = at("_1") },
		"a Borrow through a field":      func(u *api.Unit) { u.Fns[1].Points[0].From = at("_1.0") },
		"a Borrow that is mutable":      func(u *api.Unit) { u.Fns[1].Points[0].Mut = true },
		"a Call of nothing":             func(u *api.Unit) { u.Fns[1].Points[1].Fn = 3 },
		"a Call below 0":                func(u *api.Unit) { u.Fns[1].Points[1].Fn = -1 },
		"a Call of another answer":      func(u *api.Unit) { u.Fns[1].Points[1].Fn = 0 },
		"a Call with too many operands": func(u *api.Unit) { u.Fns[1].Points[1].Args = call("_0", 2, "_1").Args },
		"more loans than may be": func(u *api.Unit) {
			u.Fns[1].Points = append(slices.Repeat(u.Fns[1].Points[:1], api.MaxLoans), u.Fns[1].Points...)
		},
		"a struct that is endless": func(u *api.Unit) { u.Structs = []api.Struct{structOf("#0")} },
	} {
		u := example()
		change(&u)
		if graph.May(u) {
			t.Fatalf("%s: it may be", what)
		}
		for fn := range 3 {
			for q := range 3 {
				mustRefuse(t, what, u, fn, q)
			}
		}
	}
}

// A unit that may not be, or a function, a place, a point that is not there, is told ahead of there being too many regions.
func TestErrArgIsFirst(t *testing.T) {
	u := great(0, 600, 1, 1)
	u.Main = 9
	for q := range 3 {
		mustRefuse(t, "no main", u, 1, q)
	}
}
