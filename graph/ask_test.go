package graph_test

import (
	"math"
	"reflect"
	"slices"
	"strings"
	"testing"

	"loanword/api"
	"loanword/graph"
	"loanword/place"
	"loanword/types"
)

// mustAsk asks all that P10.2 tells of a point of a unit that may be.
func mustAsk(t *testing.T, u api.Unit, fn, q int) {
	t.Helper()
	p := u.Fns[fn].Points[q]
	next := []int{p.Next}
	if p.Op == api.Branch && p.Else != p.Next {
		next = []int{p.Next, p.Else}
	}
	if p.Op == api.Return {
		next = nil
	}
	if l, e := graph.Next(u, fn, q); e != api.OK || !slices.Equal(l, next) {
		t.Fatalf("Next of %+v: %v, %v; want %v", p, l, e, next)
	}
	var operands []api.Operand
	for _, o := range append([]api.Operand{p.A, p.B}, p.Args...) {
		if o.Kind != api.NoOperand {
			operands = append(operands, o)
		}
	}
	l, e := graph.Operands(u, fn, q)
	if e != api.OK || !reflect.DeepEqual(owned(reflect.ValueOf(l)).Interface(), owned(reflect.ValueOf(operands)).Interface()) {
		t.Fatalf("Operands of %+v: %v, %v", p, l, e)
	}
	assigns := strings.Contains(rows[p.Op], "To")
	to, is, e := graph.Assigns(u, fn, q)
	if e != api.OK || is != assigns || !place.Same(to, p.To) {
		t.Fatalf("Assigns of %+v: %v, %v, %v", p, to, is, e)
	}
}

// P10.2: successors, operands, what is assigned, of all points of units by chance.
func TestAskingPoints(t *testing.T) {
	c := byChance(103)
	for range 150 {
		u := c.unit()
		for fn, g := range u.Fns {
			for q := range g.Points {
				mustAsk(t, u, fn, q)
			}
		}
	}
}

// P10.2: what the chapter says in words: of a Branch with both the same once; of a Return none; the order.
func TestAskingExamples(t *testing.T) {
	u, p := pointUnit()
	for _, c := range []struct {
		point    string
		next     []int
		operands string
		to       string
	}{
		{"if true -> 3 else 1", []int{3, 1}, "true", ""},
		{"if copy _1 -> 1 else 3", []int{1, 3}, "copy _1", ""},
		{"if copy _1 -> 2 else 2", []int{2}, "copy _1", ""},
		{"if false -> 0 else 0", []int{0}, "false", ""},
		{"return", nil, "", ""},
		{"goto -> 0", []int{0}, "", ""},
		{"_4.* = 1 - copy _0", []int{1}, "1, copy _0", "_4.*"},
		{"_11 = #1(move _5, move _12, true) -> 4", []int{4}, "move _5, move _12, true", "_11"},
		{"_3 = f0(copy _18, move _20)", nil, "", "x"},
		{"_3 = f0(copy _3, move _20) -> 0", []int{0}, "copy _3, move _20", "_3"},
		{"_0 = 5", []int{1}, "5", "_0"},
		{"_14 = read", []int{1}, "", "_14"},
		{"_18 = & _2", []int{1}, "", "_18"},
		{"_2 = box copy _0", []int{1}, "copy _0", "_2"},
		{"_1 = ! true", []int{1}, "true", "_1"},
		{"print -5", []int{1}, "-5", ""},
		{"drop _5.1", []int{1}, "", ""},
		{"dead _5", []int{1}, "", ""},
	} {
		*p = pointOf(0, c.point)
		if c.to == "x" {
			mustRefuse(t, u, 1, 0)
			continue
		}
		if l, e := graph.Next(u, 1, 0); e != api.OK || !slices.Equal(l, c.next) {
			t.Errorf("Next of %s: %v, %v", c.point, l, e)
		}
		if l, e := graph.Operands(u, 1, 0); e != api.OK || !reflect.DeepEqual(l, operandsOf(c.operands)) {
			t.Errorf("Operands of %s: %v, %v", c.point, l, e)
		}
		to, is, e := graph.Assigns(u, 1, 0)
		if e != api.OK || is != (c.to != "") || is && place.Text(to) != c.to || !is && !reflect.DeepEqual(to, api.Place{}) {
			t.Errorf("Assigns of %s: %v, %v, %v", c.point, to, is, e)
		}
	}
}

// P10.2: the type of each place of a graph, with its regions.
func TestAskingTypes(t *testing.T) {
	c := byChance(104)
	for range 40 {
		u := c.unit()
		for fn, g := range u.Fns {
			for _, p := range allPlaces(u, fn, 4) {
				want, _ := place.Type(u.Structs, g.Locals, p)
				if x, e := graph.Type(u, fn, p); e != api.OK || !types.Same(x, want) {
					t.Fatalf("Type(%s): %v, %v; want %v", place.Text(p), x, e, want)
				}
			}
			for _, p := range wrongPlaces(g) {
				if x, e := graph.Type(u, fn, p); !isPlace(u, fn, p) && (e != api.ErrArg || !reflect.DeepEqual(x, api.Type{})) {
					t.Fatalf("Type(%v): %v, %v", p, x, e)
				}
			}
		}
	}
	u := world()
	for s, want := range map[string]string{"_0": "&'0 i64", "_2": "&'1 mut &'2 mut #0", "_2.*": "&'2 mut #0", "_2.*.*.1": "Box<i64>", "_2.*.*.1.*": "i64", "_4": "&#0"} {
		x, e := graph.Type(u, 0, at(s))
		if text, _ := types.Text(x); e != api.OK || text != want {
			t.Errorf("Type(%s): %s, %v", s, text, e)
		}
	}
}

// P10.2: the graphs that a graph calls, rising, each once.
func TestAskingCalls(t *testing.T) {
	u := api.Unit{}
	for fn := range api.MaxItems {
		u.Fns = append(u.Fns, graphOf(0, []string{"i64"}, "return"))
		u.Fns[fn].Name = "f"
	}
	u.Fns[3] = graphOf(0, []string{"i64"}, "_0 = f31()", "_0 = f3()", "_0 = f0()", "_0 = f31() -> 1", "_0 = f12()", "_0 = f0()", "return")
	u.Fns[7] = graphOf(0, []string{"i64"}, "_0 = f7()", "return")
	for fn := range u.Fns {
		want := map[int][]int{3: {0, 3, 12, 31}, 7: {7}}[fn]
		if l, e := graph.Calls(u, fn); e != api.OK || !slices.Equal(l, want) {
			t.Errorf("Calls of %d: %v, %v", fn, l, e)
		}
	}
	c := byChance(105)
	for range 100 {
		u := c.unit()
		for fn, g := range u.Fns {
			var want []int
			for _, p := range g.Points {
				if p.Op == api.Call {
					want = append(want, p.Fn)
				}
			}
			slices.Sort(want)
			if l, e := graph.Calls(u, fn); e != api.OK || !slices.Equal(l, slices.Compact(want)) {
				t.Errorf("Calls: %v, %v; want %v", l, e, want)
			}
		}
	}
}

// P10.2, P10.3: no such function, no such point, a unit that may not be.
func TestAskingWrong(t *testing.T) {
	u := world()
	for _, fn := range []int{-1, 2, math.MinInt, math.MaxInt} {
		mustRefuseGraph(t, u, fn)
	}
	for fn, g := range u.Fns {
		for _, q := range []int{-1, len(g.Points), math.MinInt, math.MaxInt} {
			mustRefuse(t, u, fn, q)
		}
	}
	mustRefuseGraph(t, api.Unit{}, 0)
	c := byChance(106)
	for range 60 {
		u := c.unit()
		for range 20 {
			x := c.spoilt(u)
			if graph.May(x) {
				continue
			}
			for fn := range len(x.Fns) + 1 {
				mustRefuseGraph(t, x, fn-1)
			}
			y, e := graph.Own(x)
			mustBe(t, "Own", e, api.ErrArg, reflect.DeepEqual(y, api.Unit{}))
		}
	}
}
