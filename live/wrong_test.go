package live_test

import (
	"fmt"
	"slices"
	"testing"

	"loanword/api"
	"loanword/live"
)

// calls are all calls to which a point is handed; each tells its error, and whether all else is zero.
var calls = map[string]func(u api.Unit, fn, q int) (api.Errno, bool){
	"Uses": func(u api.Unit, fn, q int) (api.Errno, bool) {
		l, e := live.Uses(u, fn, q)
		return e, len(l) == 0
	},
	"Ends": func(u api.Unit, fn, q int) (api.Errno, bool) {
		local, ok, e := live.Ends(u, fn, q)
		return e, local == 0 && !ok
	},
	"At": func(u api.Unit, fn, q int) (api.Errno, bool) {
		l, e := live.At(u, fn, q)
		return e, len(l) == 0
	},
	"Why": func(u api.Unit, fn, q int) (api.Errno, bool) {
		way, ok, e := live.Why(u, fn, 0, q)
		return e, len(way) == 0 && !ok
	},
}

// mustRefusePoint asks that all calls to which a point is handed refuse it.
func mustRefusePoint(t *testing.T, what string, u api.Unit, fn, q int) {
	t.Helper()
	for name, call := range calls {
		if e, zero := call(u, fn, q); e != api.ErrArg || !zero {
			t.Errorf("%s: %s of %d, %d: %v, with zero values beside it: %v", what, name, fn, q, e, zero)
		}
	}
}

// mustNotClose asks that Closed refuses these rows.
func mustNotClose(t *testing.T, what string, u api.Unit, fn int, rows []api.Row) {
	t.Helper()
	if local, at, ok, e := live.Closed(u, fn, rows); e != api.ErrArg || local != 0 || at != 0 || ok {
		t.Errorf("%s: Closed: %d, %d, %v, %v", what, local, at, ok, e)
	}
}

// mustRefuse asks that all calls refuse a function.
func mustRefuse(t *testing.T, what string, u api.Unit, fn int) {
	t.Helper()
	if rows, e := live.Of(u, fn); e != api.ErrArg || len(rows) != 0 {
		t.Errorf("%s: Of %d: %v, %v", what, fn, rows, e)
	}
	for locals := range 4 {
		for width := range 4 {
			mustNotClose(t, what, u, fn, slices.Repeat([]api.Row{rowOf(width)}, locals))
		}
	}
	mustRefusePoint(t, what, u, fn, 0)
}

// three is a unit whose graphs have 3, 2 and 1 points, and 1, 2 and 3 locals.
func three() api.Unit {
	return api.Unit{Fns: []api.Graph{
		graphOf(0, 0, "i64", "if true -> 1 else 2; goto; return"),
		graphOf(0, 1, "bool; i64", "_0 = copy _1 < 3; return"),
		graphOf(0, 0, "i64; i64; i64", "_0 = copy _0 + copy _2 -> 0"),
	}, Main: 2}
}

// Of three all calls answer: so what is refused elsewhere is refused for what is wrong there.
func TestThreeIsTaken(t *testing.T) {
	u := three()
	mustMay(t, u)
	for fn, g := range u.Fns {
		for q := range g.Points {
			for name, call := range calls {
				if e, _ := call(u, fn, q); e != api.OK {
					t.Errorf("%s of %d, %d: %v", name, fn, q, e)
				}
			}
		}
	}
	mustOf(t, u, 0, count(0, 3))
	mustOf(t, u, 1, []int{1}, []int{0})
	mustOf(t, u, 2, []int{0}, nil, []int{0})
}

// P14.1 to P14.3: no such function.
func TestWrongFunctions(t *testing.T) {
	for _, fn := range []int{-1 << 63, -1, 3, 4, api.MaxItems, 1<<63 - 1} {
		mustRefuse(t, "no function", three(), fn)
	}
}

// P14.1, P14.2: no such point; those of one graph are none of a smaller one.
func TestWrongPoints(t *testing.T) {
	for fn, points := range []int{3, 2, 1} {
		for _, q := range []int{-1 << 63, -1, points, points + 1, api.MaxPoints, 1<<63 - 1} {
			mustRefusePoint(t, "no point", three(), fn, q)
		}
	}
}

// P14.2: no such local; those of one graph are none of a smaller one.
func TestWrongLocals(t *testing.T) {
	u := three()
	for fn, g := range u.Fns {
		for q := range g.Points {
			for _, local := range []int{-1 << 63, -1, fn + 1, fn + 2, api.MaxLocals, 1<<63 - 1} {
				if way, ok, e := live.Why(u, fn, local, q); e != api.ErrArg || ok || len(way) != 0 {
					t.Errorf("Why(%d, %d) of %d: %v, %v, %v", local, q, fn, way, ok, e)
				}
			}
			if _, _, e := live.Why(u, fn, fn, q); e != api.OK {
				t.Errorf("Why(%d, %d) of %d: %v", fn, q, fn, e)
			}
		}
	}
}

// P14.1 to P14.3: a unit that may not be is refused, whichever of its functions is asked for.
func TestWrongUnits(t *testing.T) {
	mustRefuse(t, "nothing", api.Unit{}, 0)
	for what, change := range map[string]func(u *api.Unit){
		"no main":                     func(u *api.Unit) { u.Main = 3 },
		"main with a parameter":       func(u *api.Unit) { u.Fns[2].Params = 1 },
		"no locals":                   func(u *api.Unit) { u.Fns[1].Locals = nil },
		"a name too few":              func(u *api.Unit) { u.Fns[1].Names = nil },
		"no points":                   func(u *api.Unit) { u.Fns[1].Points = nil },
		"Next beyond the last":        func(u *api.Unit) { u.Fns[0].Points[1].Next = 3 },
		"Next below 0":                func(u *api.Unit) { u.Fns[0].Points[1].Next = -1 },
		"Else beyond the last":        func(u *api.Unit) { u.Fns[0].Points[0].Else = 3 },
		"Next of a Return":            func(u *api.Unit) { u.Fns[1].Points[1].Next = 1 },
		"no Op":                       func(u *api.Unit) { u.Fns[0].Points[2].Op = api.NoPoint },
		"an Op beyond the last":       func(u *api.Unit) { u.Fns[0].Points[2].Op = api.Return + 1 },
		"an operand that is no place": func(u *api.Unit) { u.Fns[2].Points[0].A.Place.Local = 3 },
		"an operand below 0":          func(u *api.Unit) { u.Fns[2].Points[0].B.Place.Local = -1 },
		"no place to lay it":          func(u *api.Unit) { u.Fns[1].Points[0].To.Local = 2 },
		"a step that is none":         func(u *api.Unit) { u.Fns[1].Points[0].To.Path = []api.Step{api.Deref} },
		"an operand of another type":  func(u *api.Unit) { u.Fns[1].Points[0].A.Place.Local = 0 },
		"the answer is gone":          func(u *api.Unit) { u.Fns[0].Points[1] = api.Point{Op: api.Dead, Next: 2} },
		"what no Goto has":            func(u *api.Unit) { u.Fns[0].Points[1].A = operandOf("copy _0") },
		"more points than may be":     func(u *api.Unit) { u.Fns[2].Points = slices.Repeat(u.Fns[2].Points, api.MaxPoints+1) },
		"more graphs than may be":     func(u *api.Unit) { u.Fns = append(u.Fns, slices.Repeat(u.Fns[:1], api.MaxItems-2)...) },
		"more locals than may be": func(u *api.Unit) {
			u.Fns[0].Locals, u.Fns[0].Names = slices.Repeat(u.Fns[0].Locals, api.MaxLocals+1), slices.Repeat(u.Fns[0].Names, api.MaxLocals+1)
		},
		"a struct that is endless":    func(u *api.Unit) { u.Structs = []api.Struct{structOf("#0")} },
		"a source place that is none": func(u *api.Unit) { u.Fns[0].Points[1].At = -1 },
	} {
		u := three()
		change(&u)
		for fn := range 3 {
			mustRefuse(t, what, u, fn)
		}
	}
}

// P14.3: rows that are not as many, not as wide, or may not be, wherever they stand.
func TestWrongRows(t *testing.T) {
	u := example()
	good := slices.Repeat([]api.Row{full(5)}, 3)
	mustClosed(t, u, 0, good, 0, 0, true)
	for _, many := range []int{0, 1, 2, 4, 5, api.MaxLocals, 1 << 16} {
		mustNotClose(t, fmt.Sprint(many, " rows"), u, 0, slices.Repeat([]api.Row{full(5)}, many))
	}
	for what, r := range map[string]api.Row{
		"none":                   {},
		"less wide":              full(4),
		"wider":                  full(6),
		"as wide as a region's":  full(api.MaxPoints + api.MaxLives),
		"no words":               {Width: 5},
		"a word too many":        {Width: 5, Words: []uint64{31, 0}},
		"a bit beyond the last":  {Width: 5, Words: []uint64{63}},
		"the last bit of a word": {Width: 5, Words: []uint64{1<<63 | 31}},
		"a width below 0":        {Width: -5, Words: []uint64{31}},
		"a great width":          {Width: 1<<63 - 1, Words: []uint64{31}},
		"a very small width":     {Width: -1 << 63, Words: []uint64{31}},
		"no width":               {Width: 0, Words: []uint64{0}},
	} {
		for local := range good {
			for _, first := range []api.Row{full(5), rowOf(5)} { // whether or not one that stands ahead lacks something
				rows := slices.Clone(good)
				rows[0] = first
				rows[local] = r
				mustNotClose(t, fmt.Sprint(what, " at ", local), u, 0, rows)
			}
		}
	}
}

// P14.3: the rows of one graph are none of another one.
func TestRowsOfAnother(t *testing.T) {
	u := three()
	for fn := range u.Fns {
		rows := rowsOf(t, u, fn)
		for other := range u.Fns {
			if other == fn {
				mustClosed(t, u, fn, rows, 0, 0, true)
			} else {
				mustNotClose(t, "another graph's", u, other, rows)
			}
		}
	}
}
