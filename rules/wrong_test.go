package rules_test

import (
	"fmt"
	"math"
	"slices"
	"strings"
	"testing"

	"loanword/api"
	"loanword/graph"
	"loanword/rules"
)

const (
	everything  = "Broken First Rule Unit Keeps Program" // the names of all calls
	ofFunctions = "Broken First Rule Keeps"              // those that are handed a function's number
)

// mustAnswer asks all calls: those of these names answer ErrArg, all others this; with an error nothing stands beside it.
func mustAnswer(t *testing.T, what string, u api.Unit, fn int, c api.FnCert, all api.Cert, names string, others api.Errno) {
	t.Helper()
	told := func(name string, e api.Errno, nothing bool) {
		t.Helper()
		want := others
		if slices.Contains(strings.Fields(names), name) {
			want = api.ErrArg
		}
		if e != want || e != api.OK && !nothing {
			t.Fatalf("%s: %s: %v, want %v; nothing beside it: %v", what, name, e, want, nothing)
		}
	}
	l, e := rules.Broken(u, fn, c)
	told("Broken", e, len(l) == 0)
	b, kept, e := rules.First(u, fn, c)
	told("First", e, b == api.Broken{} && !kept)
	for _, r := range []api.Rule{api.NoRule, api.RuleSize, api.RuleUse, 10, 255} {
		l, e = rules.Rule(u, fn, c, r)
		told("Rule", e, len(l) == 0)
	}
	b, kept, e = rules.Unit(u, all)
	told("Unit", e, b == api.Broken{} && !kept)
	is, e := rules.Keeps(u, fn)
	told("Keeps", e, !is)
	n, kept, e := rules.Program(u)
	told("Program", e, n == 0 && !kept)
}

// small is a unit of three graphs, the second of which has loans, a Call, moves and a loop; of it nothing breaks a rule.
func small() api.Unit {
	u := unitOf(
		graphOf(1, 1, "&'0 i64; &'0 i64; Box<i64>; &mut i64; bool", "_0 = & _1.*; _2 = box 5; _3 = &mut _2.*; _0 = f2(copy _1); _4 = true; if copy _4 -> 0 else 7; goto; return"),
		outlives(graphOf(2, 1, "&'1 i64; &'0 i64", "goto -> 0"), "1:0"),
	)
	u.Fns[0] = graphOf(0, 0, "i64", "_0 = 1; return")
	return u
}

// allOf are the least rows of all of a unit's graphs.
func allOf(t *testing.T, u api.Unit) api.Cert {
	t.Helper()
	var all api.Cert
	for fn := range u.Fns {
		all.Fns = append(all.Fns, leastOf(t, u, fn))
	}
	return all
}

// The small unit itself is taken.
func TestSmallUnit(t *testing.T) {
	u := small()
	mustMay(t, u)
	all := allOf(t, u)
	mustAnswer(t, "small", u, 1, all.Fns[1], all, "", api.OK)
	for fn, c := range all.Fns {
		mustTell(t, u, fn, c, "")
		mustKeep(t, u, fn, true)
	}
	mustKeepAll(t, u, -1)
}

// P18.1, P18.2: no such function; as many functions' rows as there are functions, whatever they are.
func TestWrongs(t *testing.T) {
	u := small()
	all := allOf(t, u)
	for _, fn := range []int{math.MinInt, -1, 3, api.MaxItems, math.MaxInt} {
		mustAnswer(t, fmt.Sprint("function ", fn), u, fn, all.Fns[1], all, ofFunctions, api.OK)
	}
	for _, n := range []int{0, 1, 2, 4, 32, 1000} {
		c := api.Cert{Fns: slices.Repeat(all.Fns, n)[:n]}
		mustAnswer(t, fmt.Sprint(n, " functions"), u, 1, all.Fns[1], c, "Unit", api.OK)
	}
	mustAnswer(t, "no rows", u, 1, api.FnCert{}, api.Cert{Fns: make([]api.FnCert, 3)}, "", api.OK)
	mustAnswer(t, "nothing", api.Unit{}, 0, api.FnCert{}, api.Cert{}, everything, api.OK)
}

// wrongRows are rows, each time with something wrong in them: one too few, too many, one that is too narrow, too wide, one that may not be.
func wrongRows(rows []api.Row) map[string][]api.Row {
	with := func(k int, r api.Row) []api.Row {
		l := slices.Clone(rows)
		l[k] = r
		return l
	}
	width, last := rows[0].Width, len(rows)-1
	words := make([]uint64, (width+63)/64)
	behind := slices.Clone(words)
	behind[len(words)-1] = 1 << (width % 64)
	return map[string][]api.Row{
		"none": nil, "one too few": rows[1:], "one too many": append(slices.Clone(rows), rows[0]), "twice": slices.Repeat(rows, 2),
		"the first narrow": with(0, rowOf(width-1)), "the last wide": with(last, rowOf(width+1)), "the last empty": with(last, api.Row{}),
		"no words": with(last, api.Row{Width: width}), "a word too many": with(0, api.Row{Width: width, Words: append(slices.Clone(words), 0)}), "a width below 0": with(last, api.Row{Width: -1}), "a width far below 0": with(0, api.Row{Width: math.MinInt}),
		"a width above all": with(last, api.Row{Width: math.MaxInt}), "all wide": slices.Repeat([]api.Row{rowOf(width + 1)}, len(rows)), "all narrow": slices.Repeat([]api.Row{rowOf(width - 1)}, len(rows)),
		"a bit behind the last": with(last, api.Row{Width: width, Words: behind}),
	}
}

// P18.1: rows that are not of the graph's size: which of them, the regions' first, then the loans', then the paths'; of nothing else is anything told.
func TestSizes(t *testing.T) {
	u := small()
	all := allOf(t, u)
	good := all.Fns[1]
	unit := func(c api.FnCert, want api.Broken) {
		t.Helper()
		x := api.Cert{Fns: []api.FnCert{all.Fns[0], c, {}}}
		if b, kept, e := rules.Unit(u, x); b != want || kept || e != api.OK {
			t.Fatalf("%v, %v, %v", b, kept, e)
		}
	}
	tell := func(c api.FnCert, what int) {
		t.Helper()
		mustTell(t, u, 1, c, fmt.Sprint("size ", what, " 0"))
		unit(c, api.Broken{Fn: 1, Rule: api.RuleSize, What: what})
	}
	for _, rows := range wrongRows(good.Rows) {
		tell(api.FnCert{Rows: rows, Ranges: good.Ranges, Moves: good.Moves}, 1)
		tell(api.FnCert{Rows: rows, Ranges: good.Ranges[1:], Moves: good.Moves}, 1)
		tell(api.FnCert{Rows: rows, Moves: good.Ranges}, 1)
	}
	for _, ranges := range wrongRows(good.Ranges) {
		tell(api.FnCert{Rows: good.Rows, Ranges: ranges, Moves: good.Moves}, 2)
		tell(api.FnCert{Rows: good.Rows, Ranges: ranges}, 2)
	}
	for _, moves := range wrongRows(good.Moves) {
		tell(api.FnCert{Rows: good.Rows, Ranges: good.Ranges, Moves: moves}, 3)
	}
	tell(api.FnCert{Rows: good.Ranges, Ranges: good.Rows, Moves: good.Moves}, 1)
	tell(all.Fns[0], 1)
	tell(all.Fns[2], 1)
	// of a graph without regions and loans: none of them; empty lists are none
	mustTell(t, u, 0, api.FnCert{Rows: []api.Row{}, Ranges: []api.Row{}, Moves: []api.Row{rowOf(2, 0)}}, "")
	mustTell(t, u, 0, api.FnCert{Rows: []api.Row{{}}, Moves: []api.Row{rowOf(2, 0)}}, "size 1 0")
	mustTell(t, u, 0, api.FnCert{Ranges: []api.Row{{}}, Moves: []api.Row{rowOf(2, 0)}}, "size 2 0")
	mustTell(t, u, 0, api.FnCert{}, "size 3 0")
}

// A unit that may not be is refused by all calls, whichever of its functions is asked for, and whatever else is handed in.
func TestWrongUnits(t *testing.T) {
	for what, change := range map[string]func(u *api.Unit){
		"no main":                       func(u *api.Unit) { u.Main = 3 },
		"a main with a lifetime":        func(u *api.Unit) { u.Main = 1 },
		"lifetimes below 0":             func(u *api.Unit) { u.Fns[2].Lives = -1 },
		"what outlives no lifetime":     func(u *api.Unit) { u.Fns[2].Outlives[0].Short = 2 },
		"the same said twice":           func(u *api.Unit) { u.Fns[2].Outlives = slices.Repeat(u.Fns[2].Outlives, 2) },
		"parameters below 0":            func(u *api.Unit) { u.Fns[2].Params = -1 },
		"more parameters than locals":   func(u *api.Unit) { u.Fns[2].Params = 2 },
		"a region that is no lifetime":  func(u *api.Unit) { u.Fns[1].Locals[3].Region = 1 },
		"a region below -1":             func(u *api.Unit) { u.Fns[1].Locals[3].Region = -2 },
		"an answer without a region":    func(u *api.Unit) { u.Fns[1].Locals[0].Region = -1 },
		"a type that is none":           func(u *api.Unit) { u.Fns[1].Locals[2].Of = nil },
		"a struct that is not there":    func(u *api.Unit) { u.Fns[1].Locals[2] = typeOf("#4") },
		"no locals":                     func(u *api.Unit) { u.Fns[2].Locals, u.Fns[2].Names = nil, nil },
		"a name too few":                func(u *api.Unit) { u.Fns[1].Names = u.Fns[1].Names[:3] },
		"no points":                     func(u *api.Unit) { u.Fns[2].Points = nil },
		"Next beyond the last":          func(u *api.Unit) { u.Fns[1].Points[1].Next = 8 },
		"Next below the first":          func(u *api.Unit) { u.Fns[1].Points[1].Next = -1 },
		"Else beyond the last":          func(u *api.Unit) { u.Fns[1].Points[5].Else = 8 },
		"no Op":                         func(u *api.Unit) { u.Fns[1].Points[6].Op = api.NoPoint },
		"an Op that is none":            func(u *api.Unit) { u.Fns[2].Points[0].Op = 99 },
		"a Use of nothing":              func(u *api.Unit) { u.Fns[1].Points[0] = pointOf("_0 = copy _5", 0) },
		"a Borrow of what is not there": func(u *api.Unit) { u.Fns[1].Points[0].From = placeOf("_5") },
		"a Borrow into no reference":    func(u *api.Unit) { u.Fns[1].Points[0].To = placeOf("_2") },
		"a Borrow behind a shared one":  func(u *api.Unit) { u.Fns[1].Points[2].From = placeOf("_1.*") },
		"a Call of nothing":             func(u *api.Unit) { u.Fns[1].Points[3].Fn = 3 },
		"a Call below 0":                func(u *api.Unit) { u.Fns[1].Points[3].Fn = -1 },
		"a Drop of what needs none":     func(u *api.Unit) { u.Fns[1].Points[6] = pointOf("drop _4", 0) },
		"Dead of the answer":            func(u *api.Unit) { u.Fns[1].Points[6] = pointOf("dead _0", 0) },
		"too many Borrows":              func(u *api.Unit) { u.Fns[1].Points = slices.Repeat(u.Fns[1].Points[:1], 257) },
		"a struct that is endless":      func(u *api.Unit) { u.Structs = []api.Struct{structOf("#0")} },
		"a field with a reference":      func(u *api.Unit) { u.Structs = []api.Struct{structOf("&'0 i64")} },
		"too many functions":            func(u *api.Unit) { u.Fns = append(u.Fns, slices.Repeat(u.Fns[2:], 30)...) },
	} {
		u := small()
		all := allOf(t, u)
		change(&u)
		if graph.May(u) {
			t.Fatalf("%s: it may be", what)
		}
		for fn := range 3 {
			mustAnswer(t, fmt.Sprint(what, ", function ", fn), u, fn, all.Fns[fn], all, everything, api.OK)
			mustAnswer(t, fmt.Sprint(what, ", function ", fn), u, fn, api.FnCert{}, api.Cert{Fns: make([]api.FnCert, len(u.Fns))}, everything, api.OK)
		}
	}
}
