package move_test

import (
	"fmt"
	"math"
	"slices"
	"strings"
	"testing"

	"loanword/api"
	"loanword/graph"
	"loanword/move"
)

// handed is what all calls are handed beside a unit.
type handed struct {
	fn, q, path int
	place       api.Place
	gone        []int
}

// everything are the names of all calls.
const everything = "Paths Path Below Start Does Uses Again Behind"

// mustAnswer asks all calls: those of these names answer ErrArg, all others this; with an error nothing stands beside it.
func mustAnswer(t *testing.T, what string, u api.Unit, h handed, names string, others api.Errno) {
	t.Helper()
	told := func(name string, e api.Errno, nothing bool) {
		t.Helper()
		want := others
		if slices.Contains(strings.Fields(names), name) {
			want = api.ErrArg
		}
		if e != want || e != api.OK && !nothing {
			t.Fatalf("%s: %s: %v, want %v; nothing beside it: %v", what, name, e, want, nothing)
		}
	}
	paths, e := move.Paths(u, h.fn)
	told("Paths", e, len(paths) == 0)
	n, e := move.Path(u, h.fn, h.place)
	told("Path", e, n == 0)
	below, e := move.Below(u, h.fn, h.path)
	told("Below", e, len(below) == 0)
	start, e := move.Start(u, h.fn)
	told("Start", e, len(start) == 0)
	gone, has, e := move.Does(u, h.fn, h.q)
	told("Does", e, len(gone) == 0 && len(has) == 0)
	uses, e := move.Uses(u, h.fn, h.q)
	told("Uses", e, len(uses) == 0)
	n, is, e := move.Again(u, h.fn, h.q)
	told("Again", e, n == 0 && !is)
	behind, e := move.Behind(u, h.fn, h.q, h.gone)
	told("Behind", e, len(behind) == 0)
}

// wrong is what was handed to all calls, with something wrong in it that these calls must refuse.
type wrong struct {
	what, names string
	handed
}

// wrongs are many, each with one thing wrong.
func wrongs(u api.Unit, h handed) []wrong {
	var l []wrong
	put := func(what, names string, change func(h *handed)) {
		x := h
		change(&x)
		l = append(l, wrong{what, names, x})
	}
	g := u.Fns[h.fn]
	for _, fn := range []int{math.MinInt, -1, len(u.Fns), api.MaxItems, math.MaxInt} {
		put(fmt.Sprint("function ", fn), everything, func(h *handed) { h.fn = fn })
	}
	for _, q := range []int{math.MinInt, -1, len(g.Points), api.MaxPoints, math.MaxInt} {
		put(fmt.Sprint("point ", q), "Does Uses Again Behind", func(h *handed) { h.q = q })
	}
	paths, _ := move.Paths(u, h.fn)
	for _, k := range []int{math.MinInt, -1, len(paths), api.MaxPaths, math.MaxInt} {
		put(fmt.Sprint("path ", k), "Below", func(h *handed) { h.path = k })
		put(fmt.Sprint("gone ", k), "Behind", func(h *handed) { h.gone = []int{k} })
		put(fmt.Sprint("gone 0 and ", k), "Behind", func(h *handed) { h.gone = []int{0, k} })
		put(fmt.Sprint("gone with behind it", k), "Behind", func(h *handed) { h.gone = []int{0, k, 2} })
	}
	for _, p := range []api.Place{{Local: -1}, {Local: len(g.Locals)}, {Local: math.MaxInt}, {Local: math.MinInt}, placeOf("_0.0"), placeOf("_1.*"), {Local: 1, Path: []api.Step{-2}}, {Local: 1, Path: make([]api.Step, 1000)}, {Local: 1, Path: []api.Step{math.MaxInt}}, {Local: -1, Path: []api.Step{0}}} {
		put(fmt.Sprint("place ", p), "Path", func(h *handed) { h.place = p })
	}
	for _, gone := range [][]int{{1, 0}, {0, 0}, {2, 2}, {0, 1, 1}, {0, 2, 1}, {2, 0, 1}, {-1, 0}, slices.Repeat([]int{0}, 1000), {0, 1, 2, 0}} {
		put(fmt.Sprint("list ", gone), "Behind", func(h *handed) { h.gone = gone })
	}
	put("both", "Path Below Behind", func(h *handed) { h.path, h.place, h.gone = -1, placeOf("_0.0"), []int{-1} })
	return l
}

// small is a unit of three graphs, the second of which has paths of fields and boxes, a Call and a loop.
func small() api.Unit {
	return unitOf(
		graphOf(1, 1, "&'0 i64; #0; &mut i64; bool; Box<i64>; i64", "_0 = f2(copy _0); _4 = move _1.1; _2 = &mut _4.*; _5 = f3(move _4, copy _1.0); if copy _3 -> 0 else 5; dead _1; _1.1 = box 1; drop _4; return"),
		outlives(graphOf(2, 1, "&'1 i64; &'0 i64", "return"), "1:0"),
		graphOf(0, 2, "i64; Box<i64>; i64", "return"),
	)
}

// all is what may be handed to all calls of the small unit.
func all() handed { return handed{fn: 1, q: 1, path: 2, place: placeOf("_1.1"), gone: []int{0, 3, 4}} }

// The small unit itself is taken.
func TestSmallUnit(t *testing.T) {
	u := small()
	mustMay(t, u)
	mustAnswer(t, "small", u, all(), "", api.OK)
	mustPaths(t, u, 1, "_0 _1 _1.0 _1.1 _2 _3 _4 _4.* _5")
	mustBelow(t, u, 1, 1, 1, 2, 3)
	mustStart(t, u, 1, 0, 4, 5, 6, 7, 8)
	mustDo(t, u, 1, 1, []int{3}, []int{6, 7})
	mustUse(t, u, 1, 3, 1, 2, 6, 7)
	mustBehind(t, u, 1, 1, []int{0, 4, 6}, 0, 3, 4)
}

// P17.1 to P17.3: what may not be is refused by those that are handed it, and by nobody else.
func TestWrongs(t *testing.T) {
	u := small()
	for _, w := range wrongs(u, all()) {
		mustAnswer(t, w.what, u, w.handed, w.names, api.OK)
	}
}

// P17.1 to P17.3: points, paths, places of one graph are none of a smaller one.
func TestOthersOfUnit(t *testing.T) {
	u := small()
	h := handed{fn: 2, q: 0, path: 1, place: placeOf("_1.*"), gone: []int{0, 1}}
	mustAnswer(t, "of that graph", u, h, "", api.OK)
	h = all()
	h.fn = 2
	mustAnswer(t, "of another graph", u, h, "Path Below Does Uses Again Behind", api.OK)
	h.fn, h.q, h.path = 0, 0, 1
	mustAnswer(t, "of main", u, h, "Path Below Behind", api.OK)
	mustAnswer(t, "of main", u, handed{place: placeOf("_0"), gone: []int{0}}, "", api.OK)
	mustAnswer(t, "of main", u, handed{}, "", api.OK)
}

// A unit that may not be is refused by all calls, whichever of its functions is asked for, and whatever else is handed in.
func TestWrongUnits(t *testing.T) {
	mustAnswer(t, "nothing", api.Unit{}, handed{}, everything, api.OK)
	for what, change := range map[string]func(u *api.Unit){
		"no main":                      func(u *api.Unit) { u.Main = 4 },
		"a main with a lifetime":       func(u *api.Unit) { u.Main = 1 },
		"lifetimes below 0":            func(u *api.Unit) { u.Fns[2].Lives = -1 },
		"what outlives no lifetime":    func(u *api.Unit) { u.Fns[2].Outlives[0].Short = 2 },
		"a region that is no lifetime": func(u *api.Unit) { u.Fns[1].Locals[2].Region = 1 },
		"an answer without a region":   func(u *api.Unit) { u.Fns[1].Locals[0].Region = -1 },
		"a type that is none":          func(u *api.Unit) { u.Fns[1].Locals[2].Of = nil },
		"a struct that is not there":   func(u *api.Unit) { u.Fns[1].Locals[1] = typeOf("#4") },
		"parameters below 0":           func(u *api.Unit) { u.Fns[2].Params = -1 },
		"no locals":                    func(u *api.Unit) { u.Fns[2].Locals, u.Fns[2].Names = nil, nil },
		"a name too few":               func(u *api.Unit) { u.Fns[1].Names = u.Fns[1].Names[:3] },
		"no points":                    func(u *api.Unit) { u.Fns[2].Points = nil },
		"Next beyond the last":         func(u *api.Unit) { u.Fns[1].Points[1].Next = 9 },
		"Next below the first":         func(u *api.Unit) { u.Fns[1].Points[1].Next = -1 },
		"Else beyond the last":         func(u *api.Unit) { u.Fns[1].Points[4].Else = 9 },
		"no Op":                        func(u *api.Unit) { u.Fns[1].Points[5].Op = api.NoPoint },
		"an Op that is none":           func(u *api.Unit) { u.Fns[1].Points[5].Op = 99 },
		"a Use of nothing":             func(u *api.Unit) { u.Fns[1].Points[1].A.Place.Local = 6 },
		"a Move of a number":           func(u *api.Unit) { u.Fns[1].Points[1] = pointOf("_5 = move _5", 1) },
		"a Copy of a box":              func(u *api.Unit) { u.Fns[1].Points[1].A.Kind = api.Copy },
		"a Move behind a reference": func(u *api.Unit) {
			u.Fns[1].Locals[1], u.Fns[1].Points[1] = typeOf("&'0 mut #0"), pointOf("_4 = move _1.*.1", 1)
		},
		"an operand that is none":   func(u *api.Unit) { u.Fns[1].Points[3].Args[0].Kind = api.NoOperand },
		"an operand too few":        func(u *api.Unit) { u.Fns[1].Points[3].Args = u.Fns[1].Points[3].Args[:1] },
		"an assignment of a shared": func(u *api.Unit) { u.Fns[1].Points[6] = pointOf("_0.* = 1", 6) },
		"a Call of nothing":         func(u *api.Unit) { u.Fns[1].Points[0].Fn = 4 },
		"a Drop of what needs none": func(u *api.Unit) { u.Fns[1].Points[7] = pointOf("drop _5", 7) },
		"a Drop behind a reference": func(u *api.Unit) {
			u.Fns[1].Locals[1], u.Fns[1].Points[7] = typeOf("&'0 mut #0"), pointOf("drop _1.*.1", 7)
		},
		"Dead of the answer":       func(u *api.Unit) { u.Fns[1].Points[5] = pointOf("dead _0", 5) },
		"Dead of a field":          func(u *api.Unit) { u.Fns[1].Points[5].From = placeOf("_1.1") },
		"too many points":          func(u *api.Unit) { u.Fns[1].Points = slices.Repeat(u.Fns[1].Points[7:8], 1025) },
		"a struct that is endless": func(u *api.Unit) { u.Structs = []api.Struct{structOf("#0")} },
		"a field with a reference": func(u *api.Unit) { u.Structs = []api.Struct{structOf("&'0 i64")} },
	} {
		u := small()
		h := all()
		change(&u)
		if graph.May(u) {
			t.Fatalf("%s: it may be", what)
		}
		for h.fn = range 4 {
			mustAnswer(t, fmt.Sprint(what, ", function ", h.fn), u, h, everything, api.OK)
		}
	}
}
