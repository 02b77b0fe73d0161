package outlive_test

import (
	"fmt"
	"math"
	"slices"
	"testing"

	"loanword/api"
	"loanword/graph"
	"loanword/outlive"
)

// small is a unit of three graphs, the second of which has a Borrow and a Call.
func small() api.Unit {
	return unitOf(
		graphOf(1, 1, "&'0 i64; &'0 i64; Box<&i64>; &mut &i64", "_0 = & _1.*; _0 = f2(copy _1); return"),
		outlives(graphOf(2, 1, "&'1 i64; &'0 i64", "return"), "1:0"),
	)
}

// mustAnswer asks that Of, and At at this point, answer an error, and nothing beside it.
func mustAnswer(t *testing.T, what string, u api.Unit, fn, point int, want api.Errno) {
	t.Helper()
	if l, e := outlive.Of(u, fn); e != want || len(l) != 0 {
		t.Fatalf("%s: Of(%d): %s, %v; want %v", what, fn, said(l), e, want)
	}
	if l, e := outlive.At(u, fn, point); e != want || len(l) != 0 {
		t.Fatalf("%s: At(%d, %d): %s, %v; want %v", what, fn, point, said(l), e, want)
	}
}

// The small unit itself is taken.
func TestSmallUnit(t *testing.T) {
	u := small()
	mustMay(t, u)
	mustOf(t, u, 1, "4:0 0:4 0:5 6:0 6:5")
	mustAt(t, u, 1, 0, "4:0 0:4")
	mustAt(t, u, 1, 1, "0:5 6:0 6:5")
	mustAt(t, u, 1, 2, "")
	mustOf(t, u, 2, "")
}

// P15.1: no such function.
func TestWrongFunctions(t *testing.T) {
	for _, fn := range []int{math.MinInt, -1, 3, 4, api.MaxItems, math.MaxInt} {
		for q := range 3 {
			mustAnswer(t, "small", small(), fn, q, api.ErrArg)
		}
	}
}

// P15.1: no such point; those of one graph are none of a smaller one.
func TestWrongPoints(t *testing.T) {
	u := small()
	for fn, points := range []int{1, 3, 1} {
		for _, q := range []int{math.MinInt, -1, points, points + 1, api.MaxPoints, math.MaxInt} {
			if l, e := outlive.At(u, fn, q); e != api.ErrArg || len(l) != 0 {
				t.Errorf("At(%d, %d): %s, %v", fn, q, said(l), e)
			}
		}
		mustAt(t, u, fn, points-1, "")
	}
}

// P15.1: a unit that may not be is refused, whichever of its functions is asked for.
func TestWrongUnits(t *testing.T) {
	mustAnswer(t, "nothing", api.Unit{}, 0, 0, api.ErrArg)
	for what, change := range map[string]func(u *api.Unit){
		"no main":                       func(u *api.Unit) { u.Main = 3 },
		"a main with a lifetime":        func(u *api.Unit) { u.Main = 1 },
		"lifetimes below 0":             func(u *api.Unit) { u.Fns[2].Lives = -1 },
		"more lifetimes than may be":    func(u *api.Unit) { u.Fns[2].Lives = api.MaxLives + 1 },
		"what outlives no lifetime":     func(u *api.Unit) { u.Fns[2].Outlives[0].Short = 2 },
		"what outlives itself":          func(u *api.Unit) { u.Fns[2].Outlives[0].Short = 1 },
		"a lifetime below 0":            func(u *api.Unit) { u.Fns[2].Outlives[0].Long = -1 },
		"the same said twice":           func(u *api.Unit) { u.Fns[2].Outlives = slices.Repeat(u.Fns[2].Outlives, 2) },
		"a region that is no lifetime":  func(u *api.Unit) { u.Fns[1].Locals[2].Of[0].Region = 1 },
		"a region below -1":             func(u *api.Unit) { u.Fns[1].Locals[2].Of[0].Region = -2 },
		"an answer without a region":    func(u *api.Unit) { u.Fns[1].Locals[0].Region = -1 },
		"a parameter without a region":  func(u *api.Unit) { u.Fns[2].Locals[1].Region = -1 },
		"a type that is none":           func(u *api.Unit) { u.Fns[1].Locals[3].Of[0].Of = nil },
		"a struct that is not there":    func(u *api.Unit) { u.Fns[1].Locals[2] = typeOf("#2") },
		"a type that is too deep":       func(u *api.Unit) { u.Fns[1].Locals[2] = deep("Box", api.MaxNest+1) },
		"no locals":                     func(u *api.Unit) { u.Fns[2].Locals, u.Fns[2].Names = nil, nil },
		"more parameters than locals":   func(u *api.Unit) { u.Fns[2].Params = 2 },
		"a name too few":                func(u *api.Unit) { u.Fns[1].Names = u.Fns[1].Names[:3] },
		"no points":                     func(u *api.Unit) { u.Fns[2].Points = nil },
		"Next beyond the last":          func(u *api.Unit) { u.Fns[1].Points[1].Next = 3 },
		"no Op":                         func(u *api.Unit) { u.Fns[1].Points[2].Op = api.NoPoint },
		"a Use of another type":         func(u *api.Unit) { u.Fns[1].Points[0] = pointOf("_0 = copy _3.*.*", 0) },
		"a Box of another type":         func(u *api.Unit) { u.Fns[1].Points[0] = pointOf("_2 = box 1", 0) },
		"a Box into no box":             func(u *api.Unit) { u.Fns[1].Points[0] = pointOf("_0 = box 1", 0) },
		"a Use behind a shared one":     func(u *api.Unit) { u.Fns[1].Points[0] = pointOf("_0.* = 1", 0) },
		"a Use of nothing":              func(u *api.Unit) { u.Fns[1].Points[0] = pointOf("_0 = copy _4", 0) },
		"a Borrow of what is not there": func(u *api.Unit) { u.Fns[1].Points[0].From = placeOf("_4") },
		"a Borrow of another type":      func(u *api.Unit) { u.Fns[1].Points[0].From = placeOf("_1") },
		"a Borrow through a field":      func(u *api.Unit) { u.Fns[1].Points[0].From = placeOf("_1.0") },
		"a Borrow into no reference":    func(u *api.Unit) { u.Fns[1].Points[0].To = placeOf("_2") },
		"a Borrow that is mutable":      func(u *api.Unit) { u.Fns[1].Points[0].Mut = true },
		"a Call of nothing":             func(u *api.Unit) { u.Fns[1].Points[1].Fn = 3 },
		"a Call below 0":                func(u *api.Unit) { u.Fns[1].Points[1].Fn = -1 },
		"a Call of another answer":      func(u *api.Unit) { u.Fns[1].Points[1].Fn = 0 },
		"a Call with too few operands":  func(u *api.Unit) { u.Fns[1].Points[1].Args = nil },
		"a Call with too many operands": func(u *api.Unit) { u.Fns[1].Points[1].Args = slices.Repeat(u.Fns[1].Points[1].Args, 2) },
		"a Call of another type":        func(u *api.Unit) { u.Fns[1].Points[1].Args[0] = operandOf("copy _1.*") },
		"a Call of no operand":          func(u *api.Unit) { u.Fns[1].Points[1].Args[0].Kind = api.NoOperand },
		"a struct that is endless":      func(u *api.Unit) { u.Structs = []api.Struct{structOf("#0")} },
		"a field with a reference":      func(u *api.Unit) { u.Structs = []api.Struct{structOf("&'0 i64")} },
	} {
		u := small()
		change(&u)
		if graph.May(u) {
			t.Fatalf("%s: it may be", what)
		}
		for fn := range 3 {
			for q := range 3 {
				mustAnswer(t, fmt.Sprint(what, ", function ", fn), u, fn, q, api.ErrArg)
			}
		}
	}
}
