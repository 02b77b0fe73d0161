package flow_test

import (
	"testing"

	"loanword/api"
	"loanword/flow"
)

// calls are all calls, each asked with one point wherever a point can be handed in, and 0 elsewhere; each tells its error, and whether all else is zero.
var calls = map[string]func(u api.Unit, fn, q int) (api.Errno, bool){
	"Before": func(u api.Unit, fn, q int) (api.Errno, bool) {
		l, e := flow.Before(u, fn, q)
		return e, len(l) == 0
	},
	"Reach": func(u api.Unit, fn, q int) (api.Errno, bool) {
		l, e := flow.Reach(u, fn, q)
		return e, len(l) == 0
	},
	"Way from": func(u api.Unit, fn, q int) (api.Errno, bool) {
		l, ok, e := flow.Way(u, fn, q, 0)
		return e, len(l) == 0 && !ok
	},
	"Way to": func(u api.Unit, fn, q int) (api.Errno, bool) {
		l, ok, e := flow.Way(u, fn, 0, q)
		return e, len(l) == 0 && !ok
	},
	"Way without": func(u api.Unit, fn, q int) (api.Errno, bool) {
		l, ok, e := flow.Way(u, fn, 0, 0, 0, q)
		return e, len(l) == 0 && !ok
	},
	"Above": func(u api.Unit, fn, q int) (api.Errno, bool) {
		l, e := flow.Above(u, fn, q)
		return e, len(l) == 0
	},
	"Loop from": func(u api.Unit, fn, q int) (api.Errno, bool) {
		l, e := flow.Loop(u, fn, q, 0)
		return e, len(l) == 0
	},
	"Loop to": func(u api.Unit, fn, q int) (api.Errno, bool) {
		l, e := flow.Loop(u, fn, 0, q)
		return e, len(l) == 0
	},
}

// graphCalls are those that are asked of a whole graph.
var graphCalls = map[string]func(u api.Unit, fn int) (api.Errno, bool){
	"Is": func(u api.Unit, fn int) (api.Errno, bool) {
		at, ok, e := flow.Is(u, fn, 0)
		return e, at == 0 && !ok
	},
	"Is of nothing": func(u api.Unit, fn int) (api.Errno, bool) {
		at, ok, e := flow.Is(u, fn)
		return e, at == 0 && !ok
	},
	"Is of no point": func(u api.Unit, fn int) (api.Errno, bool) {
		at, ok, e := flow.Is(u, fn, 0, -1)
		return e, at == 0 && !ok
	},
	"Order": func(u api.Unit, fn int) (api.Errno, bool) {
		l, e := flow.Order(u, fn)
		return e, len(l) == 0
	},
	"Back": func(u api.Unit, fn int) (api.Errno, bool) {
		l, e := flow.Back(u, fn)
		return e, len(l) == 0
	},
	"Right": func(u api.Unit, fn int) (api.Errno, bool) {
		l, e := flow.Right(u, fn)
		return e, len(l) == 0
	},
}

// mustRefuse asks that all calls refuse a function.
func mustRefuse(t *testing.T, what string, u api.Unit, fn int) {
	t.Helper()
	for name, call := range graphCalls {
		if e, zero := call(u, fn); e != api.ErrArg || !zero {
			t.Errorf("%s: %s of %d: %v, with zero values beside it: %v", what, name, fn, e, zero)
		}
	}
	mustRefusePoint(t, what, u, fn, 0)
}

// mustRefusePoint asks that all calls to which a point is handed refuse it.
func mustRefusePoint(t *testing.T, what string, u api.Unit, fn, q int) {
	t.Helper()
	for name, call := range calls {
		if e, zero := call(u, fn, q); e != api.ErrArg || !zero {
			t.Errorf("%s: %s of %d, %d: %v, with zero values beside it: %v", what, name, fn, q, e, zero)
		}
	}
}

// round is a unit whose graphs, of 3, 2 and 1 points, all go round at 0: all calls answer at 0.
func round() api.Unit {
	return api.Unit{Fns: []api.Graph{graphOf("b0,1", "g2", "r"), graphOf("b1,0", "r"), graphOf("g0")}, Main: 2}
}

// Of round all calls answer: so what is refused elsewhere is refused for what is wrong there.
func TestRoundIsTaken(t *testing.T) {
	u := round()
	for fn := range u.Fns {
		for name, call := range calls {
			if e, _ := call(u, fn, 0); e != api.OK {
				t.Errorf("%s of %d: %v", name, fn, e)
			}
		}
		for name, call := range graphCalls {
			if e, _ := call(u, fn); e != api.OK {
				t.Errorf("%s of %d: %v", name, fn, e)
			}
		}
	}
}

// P12.1 to P12.3: no such function.
func TestWrongFunctions(t *testing.T) {
	for _, fn := range []int{-1 << 63, -1, 3, 4, api.MaxItems, 1<<63 - 1} {
		mustRefuse(t, "no function", round(), fn)
	}
}

// P12.1 to P12.3: no such point; those of one graph are none of a smaller one.
func TestWrongPoints(t *testing.T) {
	for fn, points := range []int{3, 2, 1} {
		for _, q := range []int{-1 << 63, -1, points, points + 1, api.MaxPoints, 1<<63 - 1} {
			mustRefusePoint(t, "no point", round(), fn, q)
		}
		if _, _, e := flow.Way(round(), fn, 0, 0, 0, points-1); e != api.OK {
			t.Errorf("%d: %v", fn, e)
		}
	}
}

// P12.1: one of without that is no point is refused, wherever it stands, and though the way goes nowhere near.
func TestWrongWithout(t *testing.T) {
	u := unitOf(example)
	for _, without := range [][]int{{7}, {-1}, {1, 2, 7}, {7, 1}, {6, 6, -1, 6}, {1 << 40}} {
		for to := range 7 {
			if way, ok, e := flow.Way(u, 0, 0, to, without...); e != api.ErrArg || ok || len(way) != 0 {
				t.Errorf("to %d without %v: %v, %v, %v", to, without, way, ok, e)
			}
		}
	}
}

// P12.1 to P12.3: a unit that may not be is refused, whichever of its functions is asked for.
func TestWrongUnits(t *testing.T) {
	mustRefuse(t, "nothing", api.Unit{}, 0)
	for what, change := range map[string]func(u *api.Unit){
		"no main": func(u *api.Unit) { u.Main = 3 },
		"main with a parameter": func(u *api.Unit) {
			u.Fns[2].Params, u.Fns[2].Locals, u.Fns[2].Names = 1, twice(u.Fns[2].Locals), twice(u.Fns[2].Names)
		},
		"no locals":               func(u *api.Unit) { u.Fns[1].Locals = nil },
		"a name too few":          func(u *api.Unit) { u.Fns[1].Names = nil },
		"no points":               func(u *api.Unit) { u.Fns[1].Points = nil },
		"Next beyond the last":    func(u *api.Unit) { u.Fns[0].Points[1].Next = 3 },
		"Next below 0":            func(u *api.Unit) { u.Fns[0].Points[1].Next = -1 },
		"Else beyond the last":    func(u *api.Unit) { u.Fns[1].Points[0].Else = 2 },
		"Else of a Goto":          func(u *api.Unit) { u.Fns[0].Points[1].Else = 1 },
		"Next of a Return":        func(u *api.Unit) { u.Fns[1].Points[1].Next = 1 },
		"no Op":                   func(u *api.Unit) { u.Fns[0].Points[2].Op = api.NoPoint },
		"an Op beyond the last":   func(u *api.Unit) { u.Fns[0].Points[2].Op = api.Return + 1 },
		"a Branch on a number":    func(u *api.Unit) { u.Fns[1].Points[0].A.Kind = api.ConstInt },
		"more points than may be": func(u *api.Unit) { u.Fns[2].Points = many(u.Fns[2].Points[0], api.MaxPoints+1) },
		"more graphs than may be": func(u *api.Unit) { u.Fns = append(u.Fns, many(u.Fns[0], api.MaxItems-2)...) },
		"very many points":        func(u *api.Unit) { u.Fns[2].Points = many(u.Fns[2].Points[0], 1<<14) },
		"a struct that is endless": func(u *api.Unit) {
			u.Structs = []api.Struct{{Fields: []api.Field{{Type: api.Type{Kind: api.TyStruct}}}}}
		},
		"a place that is not there":   func(u *api.Unit) { u.Fns[0].Points[1] = api.Point{Op: api.Dead, From: api.Place{Local: 1}} },
		"a source place that is none": func(u *api.Unit) { u.Fns[0].Points[1].At = -1 },
	} {
		u := round()
		change(&u)
		for fn := range 3 {
			mustRefuse(t, what, u, fn)
		}
	}
}

func twice[T any](l []T) []T { return append(append([]T(nil), l...), l...) }

func many[T any](x T, count int) []T {
	var l []T
	for range count {
		l = append(l, x)
	}
	return l
}

// As much as may be is taken: as many graphs, as many points.
func TestMostIsTaken(t *testing.T) {
	u := api.Unit{Fns: many(graphOf("g0"), api.MaxItems)}
	u.Fns[31].Points = many(u.Fns[31].Points[0], api.MaxPoints)
	l, e := flow.Before(u, 31, 0)
	mustList(t, "Before", l, e, count(0, api.MaxPoints)...)
	l, e = flow.Right(u, 30)
	mustList(t, "Right", l, e, -1)
	u.Fns = append(u.Fns, u.Fns[0])
	mustRefuse(t, "a graph more", u, 31)
}
