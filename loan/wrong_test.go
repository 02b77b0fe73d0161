package loan_test

import (
	"fmt"
	"math"
	"slices"
	"strings"
	"testing"

	"loanword/api"
	"loanword/graph"
	"loanword/loan"
	"loanword/region"
)

// handed is what all calls are handed beside a unit.
type handed struct {
	fn, q, loan  int
	look         api.Access
	rows, ranges []api.Row
}

// everything are the names of all calls.
const everything = "Of Looks Breaks Kills Ranges Closed Broken Why"

// mustAnswer asks all calls: those of these names answer ErrArg, all others this; with an error nothing stands beside it.
func mustAnswer(t *testing.T, what string, u api.Unit, h handed, names string, others api.Errno) {
	t.Helper()
	told := func(name string, e api.Errno, nothing bool) {
		t.Helper()
		want := others
		if slices.Contains(strings.Fields(names), name) {
			want = api.ErrArg
		}
		if e != want || e != api.OK && !nothing {
			t.Fatalf("%s: %s: %v, want %v; nothing beside it: %v", what, name, e, want, nothing)
		}
	}
	of, e := loan.Of(u, h.fn)
	told("Of", e, len(of) == 0)
	looks, e := loan.Looks(u, h.fn, h.q)
	told("Looks", e, len(looks) == 0)
	breaks, e := loan.Breaks(u, h.fn, h.loan, h.look)
	told("Breaks", e, !breaks)
	kills, e := loan.Kills(u, h.fn, h.q)
	told("Kills", e, len(kills) == 0)
	ranges, e := loan.Ranges(u, h.fn, h.rows)
	told("Ranges", e, len(ranges) == 0)
	k, at, ok, e := loan.Closed(u, h.fn, h.rows, h.ranges)
	told("Closed", e, k == 0 && at == 0 && !ok)
	k, at, ok, e = loan.Broken(u, h.fn, h.ranges)
	told("Broken", e, k == 0 && at == 0 && !ok)
	way, ok, e := loan.Why(u, h.fn, h.rows, h.loan, h.q)
	told("Why", e, len(way) == 0 && !ok)
}

// wrong is what was handed to all calls, with something wrong in it that these calls must refuse.
type wrong struct {
	what, names string
	handed
}

// wrongs are many, each with one thing wrong.
func wrongs(u api.Unit, h handed) []wrong {
	var l []wrong
	put := func(what, names string, change func(h *handed)) {
		x := h
		change(&x)
		l = append(l, wrong{what, names, x})
	}
	g := u.Fns[h.fn]
	loans := len(h.ranges)
	for _, fn := range []int{math.MinInt, -1, len(u.Fns), api.MaxItems, math.MaxInt} {
		put(fmt.Sprint("function ", fn), everything, func(h *handed) { h.fn = fn })
	}
	for _, q := range []int{math.MinInt, -1, len(g.Points), api.MaxPoints, math.MaxInt} {
		put(fmt.Sprint("point ", q), "Looks Kills Why", func(h *handed) { h.q = q })
	}
	for _, k := range []int{math.MinInt, -1, loans, api.MaxLoans, math.MaxInt} {
		put(fmt.Sprint("loan ", k), "Breaks Why", func(h *handed) { h.loan = k })
	}
	for _, p := range []api.Place{{Local: -1}, {Local: len(g.Locals)}, {Local: math.MaxInt}, {Local: math.MinInt}, placeOf("_0.0"), placeOf("_1.0"), placeOf("_1.*.*"), {Local: 1, Path: []api.Step{-2}}, {Local: 1, Path: make([]api.Step, 1000)}} {
		put(fmt.Sprint("place ", p), "Breaks", func(h *handed) { h.look.Place = p })
	}
	for _, d := range []api.Depth{api.NoDepth, api.Deep + 1, 255} {
		put(fmt.Sprint("depth ", d), "Breaks", func(h *handed) { h.look.Depth = d })
	}
	for what, rows := range wrongRows(h.rows) {
		put("rows: "+what, "Ranges Closed Why", func(h *handed) { h.rows = rows })
	}
	for what, ranges := range wrongRows(h.ranges) {
		put("ranges: "+what, "Closed Broken", func(h *handed) { h.ranges = ranges })
	}
	put("both", "Ranges Closed Why Broken", func(h *handed) { h.rows, h.ranges = h.ranges, h.rows })
	put("point and loan", "Looks Kills Breaks Why", func(h *handed) { h.q, h.loan = -1, -1 })
	return l
}

// wrongRows are rows, each time with something wrong in them: one too few, too many, one that is too narrow, too wide, one that may not be.
func wrongRows(rows []api.Row) map[string][]api.Row {
	with := func(k int, r api.Row) []api.Row {
		l := slices.Clone(rows)
		l[k] = r
		return l
	}
	width, last := rows[0].Width, len(rows)-1
	words := make([]uint64, (width+63)/64)
	long := append(slices.Clone(words), 0)
	behind := slices.Clone(words)
	behind[len(words)-1] = 1 << (width % 64)
	l := map[string][]api.Row{
		"none": nil, "one too few": rows[1:], "one too many": append(slices.Clone(rows), rows[0]), "twice": slices.Repeat(rows, 2),
		"the first narrow": with(0, rowOf(width-1)), "the last wide": with(last, rowOf(width+1)), "the last empty": with(last, api.Row{}),
		"no words": with(last, api.Row{Width: width}), "a word too many": with(0, api.Row{Width: width, Words: long}), "a width below 0": with(last, api.Row{Width: -1}), "a width far below 0": with(0, api.Row{Width: math.MinInt}),
		"a width above all": with(last, api.Row{Width: math.MaxInt}), "all wide": slices.Repeat([]api.Row{rowOf(width + 1)}, len(rows)), "all narrow": slices.Repeat([]api.Row{rowOf(width - 1)}, len(rows)),
	}
	if width%64 != 0 {
		l["a bit behind the last"] = with(last, api.Row{Width: width, Words: behind})
	}
	return l
}

// small is a unit of three graphs, the second of which has two loans, a Call and a loop.
func small() api.Unit {
	return unitOf(
		graphOf(1, 1, "&'0 i64; &'0 i64; Box<i64>; &mut i64; bool", "_0 = & _1.*; _3 = &mut _2.*; _0 = f2(copy _1); if copy _4 -> 0 else 4; return"),
		outlives(graphOf(2, 1, "&'1 i64; &'0 i64", "return"), "1:0"),
	)
}

// all is what may be handed to all calls of the small unit.
func all(t *testing.T, u api.Unit) handed {
	t.Helper()
	return handed{fn: 1, q: 3, loan: 1, look: accessOf("_2.* deep written"), rows: rowsOf(t, u, 1), ranges: rangesOf(u, 1, []int{1}, nil)}
}

// The small unit itself is taken.
func TestSmallUnit(t *testing.T) {
	u := small()
	mustMay(t, u)
	h := all(t, u)
	mustAnswer(t, "small", u, h, "", api.OK)
	mustOf(t, u, 1, "0 & _1.* '2, 1 &mut _2.* '3")
	ranges := mustRange(t, u, 1, h.rows, count(0, 5), count(0, 5))
	mustBroken(t, u, 1, ranges, 1, 1, false)
	mustBreak(t, u, 1, 1, h.look, true)
	mustWhy(t, u, 1, h.rows, 1, 0, 1, 2, 3, 0)
	mustWhy(t, u, 1, h.rows, 1, 1, 1)
}

// P16.1 to P16.4: what may not be is refused by those that are handed it, and by nobody else.
func TestWrongs(t *testing.T) {
	u := small()
	for _, w := range wrongs(u, all(t, u)) {
		mustAnswer(t, w.what, u, w.handed, w.names, api.OK)
	}
}

// P16.1: points, loans of one graph are none of a smaller one; rows of one graph none of another one.
func TestOthersOfUnit(t *testing.T) {
	u := small()
	h := all(t, u)
	h.fn = 2
	mustAnswer(t, "of another graph", u, h, "Looks Breaks Kills Ranges Closed Broken Why", api.OK)
	h.q, h.rows, h.ranges = 0, slices.Repeat([]api.Row{rowOf(3)}, 2), nil
	mustAnswer(t, "without loans", u, h, "Breaks Why", api.OK)
	if region.Width(regionsOf(t, u, 2)) != 3 {
		t.Error("the width")
	}
	h.fn = 0
	h.rows = nil
	mustAnswer(t, "without regions", u, h, "Breaks Why", api.OK)
	if ranges := rangesBy(t, u, 0, nil); len(ranges) != 0 {
		t.Error(ranges)
	}
	mustClosed(t, u, 0, nil, nil, 0, 0, true)
	mustBroken(t, u, 0, nil, 0, 0, true)
}

// A unit that may not be is refused by all calls, whichever of its functions is asked for, and whatever else is handed in.
func TestWrongUnits(t *testing.T) {
	mustAnswer(t, "nothing", api.Unit{}, handed{look: accessOf("_0 deep read")}, everything, api.OK)
	for what, change := range map[string]func(u *api.Unit){
		"no main":                       func(u *api.Unit) { u.Main = 3 },
		"a main with a lifetime":        func(u *api.Unit) { u.Main = 1 },
		"lifetimes below 0":             func(u *api.Unit) { u.Fns[2].Lives = -1 },
		"what outlives no lifetime":     func(u *api.Unit) { u.Fns[2].Outlives[0].Short = 2 },
		"the same said twice":           func(u *api.Unit) { u.Fns[2].Outlives = slices.Repeat(u.Fns[2].Outlives, 2) },
		"a region that is no lifetime":  func(u *api.Unit) { u.Fns[1].Locals[3].Region = 1 },
		"a region below -1":             func(u *api.Unit) { u.Fns[1].Locals[3].Region = -2 },
		"an answer without a region":    func(u *api.Unit) { u.Fns[1].Locals[0].Region = -1 },
		"a type that is none":           func(u *api.Unit) { u.Fns[1].Locals[2].Of = nil },
		"a struct that is not there":    func(u *api.Unit) { u.Fns[1].Locals[2] = typeOf("#4") },
		"no locals":                     func(u *api.Unit) { u.Fns[2].Locals, u.Fns[2].Names = nil, nil },
		"a name too few":                func(u *api.Unit) { u.Fns[1].Names = u.Fns[1].Names[:3] },
		"no points":                     func(u *api.Unit) { u.Fns[2].Points = nil },
		"Next beyond the last":          func(u *api.Unit) { u.Fns[1].Points[1].Next = 5 },
		"Next below the first":          func(u *api.Unit) { u.Fns[1].Points[1].Next = -1 },
		"Else beyond the last":          func(u *api.Unit) { u.Fns[1].Points[3].Else = 5 },
		"no Op":                         func(u *api.Unit) { u.Fns[1].Points[4].Op = api.NoPoint },
		"an Op that is none":            func(u *api.Unit) { u.Fns[1].Points[4].Op = 99 },
		"a Use of nothing":              func(u *api.Unit) { u.Fns[1].Points[0] = pointOf("_0 = copy _5", 0) },
		"a Borrow of what is not there": func(u *api.Unit) { u.Fns[1].Points[0].From = placeOf("_5") },
		"a Borrow of another type":      func(u *api.Unit) { u.Fns[1].Points[0].From = placeOf("_1") },
		"a Borrow into no reference":    func(u *api.Unit) { u.Fns[1].Points[0].To = placeOf("_2") },
		"a Borrow that is mutable":      func(u *api.Unit) { u.Fns[1].Points[0].Mut = true },
		"a Borrow behind a shared one":  func(u *api.Unit) { u.Fns[1].Points[1].From = placeOf("_1.*") },
		"a Call of nothing":             func(u *api.Unit) { u.Fns[1].Points[2].Fn = 3 },
		"a Call below 0":                func(u *api.Unit) { u.Fns[1].Points[2].Fn = -1 },
		"a Drop of what needs none":     func(u *api.Unit) { u.Fns[1].Points[4] = pointOf("drop _4", 0) },
		"Dead of the answer":            func(u *api.Unit) { u.Fns[1].Points[4] = pointOf("dead _0", 0) },
		"too many Borrows":              func(u *api.Unit) { u.Fns[1].Points = slices.Repeat(u.Fns[1].Points[:1], 257) },
		"a struct that is endless":      func(u *api.Unit) { u.Structs = []api.Struct{structOf("#0")} },
		"a field with a reference":      func(u *api.Unit) { u.Structs = []api.Struct{structOf("&'0 i64")} },
	} {
		u := small()
		h := all(t, u)
		change(&u)
		if graph.May(u) {
			t.Fatalf("%s: it may be", what)
		}
		for h.fn = range 3 {
			mustAnswer(t, fmt.Sprint(what, ", function ", h.fn), u, h, everything, api.OK)
		}
	}
}
