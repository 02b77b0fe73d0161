package graph_test

import (
	"math"
	"testing"

	"loanword/api"
	"loanword/graph"
)

// pointUnit is the world with main's first point, behind which there are four others.
func pointUnit() (api.Unit, *api.Point) {
	u := world()
	return u, &u.Fns[1].Points[0]
}

// operands are all operands of a graph's places, constants, and wrong ones.
func operands(u api.Unit, fn, most int) []api.Operand {
	l := []api.Operand{{}, {Kind: api.ConstInt}, {Kind: api.ConstInt, N: math.MinInt64}, {Kind: api.ConstBool}, {Kind: api.ConstBool, N: 1}, {Kind: api.ConstBool, N: 2}, {Kind: api.ConstBool, N: -1},
		{Kind: api.ConstInt, N: 1, Place: at("_1")}, {Kind: api.ConstBool, Place: at("_0.*")}, {Kind: api.Copy, N: 1}, {Kind: api.Move, N: -1, Place: at("_2")}, {Kind: 5}, {N: 1}, {Place: at("_3")}}
	for _, p := range append(allPlaces(u, fn, most), wrongPlaces(u.Fns[fn])...) {
		l = append(l, api.Operand{Kind: api.Copy, Place: p}, api.Operand{Kind: api.Move, Place: p})
	}
	return l
}

func places(u api.Unit, fn, most int) []api.Place {
	return append(allPlaces(u, fn, most), wrongPlaces(u.Fns[fn])...)
}

// tally counts how many points were taken and refused, of each Op.
type tally map[api.PointOp][2]int

func (m tally) mustCheck(t *testing.T, u api.Unit) {
	t.Helper()
	op := u.Fns[1].Points[0].Op
	n := m[op]
	if mustCheck(t, u) {
		n[0]++
	} else {
		n[1]++
	}
	m[op] = n
}

func (m tally) mustHave(t *testing.T, taken, refused int, ops ...api.PointOp) {
	t.Helper()
	for _, op := range ops {
		if m[op][0] < taken || m[op][1] < refused {
			t.Errorf("Op %d: %v", op, m[op])
		}
	}
}

// P10.1: each Op with one operand, of each place and each operand.
func TestPointsOfOneOperand(t *testing.T) {
	u, p := pointUnit()
	m := tally{}
	for _, a := range operands(u, 1, 3) {
		for _, op := range []api.PointOp{api.Print, api.Branch} {
			*p = api.Point{Op: op, A: a, Next: 1}
			m.mustCheck(t, u)
		}
		for _, to := range places(u, 1, 3) {
			*p = api.Point{Op: api.Use, To: to, A: a, Next: 1}
			m.mustCheck(t, u)
			*p = api.Point{Op: api.Box, To: to, A: a, Next: 1}
			m.mustCheck(t, u)
		}
	}
	m.mustHave(t, 100, 1000, api.Use, api.Box)
	m.mustHave(t, 8, 100, api.Print, api.Branch)
}

var signs = []string{"+", "-", "*", "/", "%", "==", "!=", "<", "<=", ">", ">=", "!", "", "&&", "||", "=", "+ ", "<<", "&"}

// P10.1: each sign, with places and operands of each type.
func TestPointsOfSigns(t *testing.T) {
	u, p := pointUnit()
	m := tally{}
	l := append(operandsOf("3, true, copy _0, copy _1, copy _4.*, copy _16.0, copy _3, move _2, move _0"), api.Operand{}, api.Operand{Kind: api.ConstBool, N: 2})
	tos := []api.Place{at("_0"), at("_1"), at("_2"), at("_4.*"), at("_3.*"), at("_17.*.0"), at("_5"), {Local: -1}}
	for _, sign := range signs {
		for _, to := range tos {
			for _, a := range l {
				*p = api.Point{Op: api.Unary, To: to, A: a, Sign: sign, Next: 1}
				m.mustCheck(t, u)
				for _, b := range l {
					*p = api.Point{Op: api.Binary, To: to, A: a, B: b, Sign: sign, Next: 1}
					m.mustCheck(t, u)
				}
			}
		}
	}
	m.mustHave(t, 12, 1000, api.Unary, api.Binary)
}

// P10.1: Borrow, Read, Drop, Dead of each place.
func TestPointsOfPlaces(t *testing.T) {
	u, p := pointUnit()
	m := tally{}
	l := places(u, 1, 4)
	for _, from := range l {
		for _, to := range l {
			for _, mut := range []bool{false, true} {
				*p = api.Point{Op: api.Borrow, To: to, From: from, Mut: mut, Next: 1}
				m.mustCheck(t, u)
			}
		}
		*p = api.Point{Op: api.Read, To: from, Next: 1}
		m.mustCheck(t, u)
		*p = api.Point{Op: api.Drop, From: from, Next: 1}
		m.mustCheck(t, u)
		*p = api.Point{Op: api.Dead, From: from, Next: 1}
		m.mustCheck(t, u)
	}
	m.mustHave(t, 100, 1000, api.Borrow)
	m.mustHave(t, 10, 30, api.Read, api.Drop, api.Dead)
}

// P10.1: Make and Call of each struct and graph, with arguments as many, more and less, of each type.
func TestPointsOfArguments(t *testing.T) {
	u, p := pointUnit()
	u.Fns = append(u.Fns, graphOf(3, []string{"bool", "i64", "#2", "Box<#1>"}, "return"), graphOf(0, []string{"#0"}, "return"))
	m := tally{}
	l := append(operandsOf("3, true, copy _0, copy _1, copy _4.*, copy _16.0, copy _3, copy _18, move _2, move _0, move _5, move _12, move _16, move _20"), api.Operand{}, api.Operand{Kind: api.ConstBool, N: 2})
	well := [][]api.Operand{nil, operandsOf("1, move _2"), operandsOf("move _5, move _12, true"), operandsOf("copy _15"), operandsOf("copy _3, move _20"), operandsOf("7, move _16, move _12"), operandsOf("copy _3, copy _3")}
	tos := []api.Place{at("_0"), at("_1"), at("_3"), at("_5"), at("_7.*"), at("_6.*"), at("_11"), at("_12.*"), at("_16"), at("_17.*"), at("_11.0"), {Local: -1}}
	for _, args := range well {
		var lists [][]api.Operand
		for i := range args {
			lists = append(lists, args[:i], args[i:])
			for _, o := range l {
				one := append([]api.Operand{}, args...)
				one[i] = o
				lists = append(lists, one)
			}
		}
		lists = append(lists, args, []api.Operand{}, append(args[:len(args):len(args)], operandOf("1")), append(args[:len(args):len(args)], api.Operand{}))
		for _, list := range lists {
			for _, to := range tos {
				for _, n := range []int{-1, 0, 1, 2, 3, 4, math.MaxInt} {
					*p = api.Point{Op: api.Make, To: to, Args: list, Struct: n, Next: 1}
					m.mustCheck(t, u)
					*p = api.Point{Op: api.Call, To: to, Args: list, Fn: n, Next: 1}
					m.mustCheck(t, u)
				}
			}
		}
	}
	m.mustHave(t, 40, 1000, api.Make, api.Call)
}

// wellPoints are points that may be main's first one, of each Op.
func wellPoints() []api.Point {
	var l []api.Point
	for _, s := range []string{"_0 = 1", "_0 = copy _14 + 1", "_1 = copy _1 == true", "_0 = - 4", "_1 = ! copy _15", "_3 = & _2.*", "_4 = &mut _2.*", "_2 = box 1", "_5 = #0(1, move _2)",
		"_3 = f0(copy _3, move _20)", "_0 = read", "print 4", "drop _2", "dead _2", "if true -> 1 else 2", "goto -> 0", "return"} {
		l = append(l, pointOf(0, s))
	}
	return l
}

// P10.1: each field that a row does not name must be zero, each that it names must be there.
func TestPointsOfOtherFields(t *testing.T) {
	u, p := pointUnit()
	m := tally{}
	fill := []func(p *api.Point){
		func(p *api.Point) { p.To = at("_3") },
		func(p *api.Point) { p.To = at("_0.0") },
		func(p *api.Point) { p.To = api.Place{Path: []api.Step{}} },
		func(p *api.Point) { p.To = api.Place{} },
		func(p *api.Point) { p.A = operandOf("1") },
		func(p *api.Point) { p.A = operandOf("copy _0") },
		func(p *api.Point) { p.A = api.Operand{Place: api.Place{Path: []api.Step{}}} },
		func(p *api.Point) { p.A = api.Operand{N: 1} },
		func(p *api.Point) { p.A = api.Operand{Place: at("_1")} },
		func(p *api.Point) { p.B = operandOf("false") },
		func(p *api.Point) { p.B = api.Operand{N: -1} },
		func(p *api.Point) { p.B = api.Operand{Place: at("_0.*")} },
		func(p *api.Point) { p.B = api.Operand{} },
		func(p *api.Point) { p.Args = []api.Operand{} },
		func(p *api.Point) { p.Args = []api.Operand{{}} },
		func(p *api.Point) { p.Args = operandsOf("1") },
		func(p *api.Point) { p.Args = nil },
		func(p *api.Point) { p.Sign = "+" },
		func(p *api.Point) { p.Sign = " " },
		func(p *api.Point) { p.Sign = "" },
		func(p *api.Point) { p.From = at("_2") },
		func(p *api.Point) { p.From = at("_0.*") },
		func(p *api.Point) { p.From = api.Place{} },
		func(p *api.Point) { p.Mut = true },
		func(p *api.Point) { p.Mut = false },
		func(p *api.Point) { p.Fn = 1 },
		func(p *api.Point) { p.Fn = -1 },
		func(p *api.Point) { p.Struct = 1 },
		func(p *api.Point) { p.Struct = -1 },
		func(p *api.Point) { p.Next = 0 },
		func(p *api.Point) { p.Next = 4 },
		func(p *api.Point) { p.Next = 5 },
		func(p *api.Point) { p.Next = -1 },
		func(p *api.Point) { p.Next = math.MaxInt },
		func(p *api.Point) { p.Else = 0 },
		func(p *api.Point) { p.Else = 4 },
		func(p *api.Point) { p.Else = 5 },
		func(p *api.Point) { p.Else = -1 },
		func(p *api.Point) { p.At = math.MaxInt },
		func(p *api.Point) { p.At = -1 },
		func(p *api.Point) { p.At = math.MinInt },
	}
	for _, well := range wellPoints() {
		*p = well
		if !mustCheck(t, u) {
			t.Errorf("refused: %+v", well)
		}
		for op := range 256 {
			*p = well
			p.Op = api.PointOp(op)
			m.mustCheck(t, u)
		}
		for i := range fill {
			*p = well
			fill[i](p)
			m.mustCheck(t, u)
			for j := range i {
				*p = well
				fill[i](p)
				fill[j](p)
				m.mustCheck(t, u)
			}
		}
	}
	m.mustHave(t, 20, 100, api.Use, api.Binary, api.Unary, api.Borrow, api.Box, api.Make, api.Call, api.Read, api.Print, api.Drop, api.Dead, api.Branch, api.Goto, api.Return)
	m.mustHave(t, 0, 10, api.NoPoint, 15, 255)
}

// P10.1: what a place goes through, said by the chapter's words.
func TestGoingThrough(t *testing.T) {
	for _, c := range []struct {
		point string
		may   bool
	}{
		{"_4.* = 1", true},
		{"_3.* = 1", false},
		{"_10.*.* = 1", false},
		{"_9.* = copy _3", true},
		{"_9.*.* = 1", false},
		{"_8.*.* = 1", true},
		{"_0 = copy _10.*.*", true},
		{"_4 = move _8.*", true},
		{"_4 = move _10.*", false},
		{"_2 = move _5.1", true},
		{"_2 = move _7.*.1", false},
		{"_2 = move _6.*.1", false},
		{"_2 = move _12.*.0.1", true},
		{"_4 = &mut _10.*.*", false},
		{"_4 = &mut _8.*.*", true},
		{"_4 = &mut _9.*.*", false},
		{"_3 = & _10.*.*", true},
		{"_4 = & _2.*", false},
		{"_3 = &mut _2.*", false},
		{"drop _5", true},
		{"drop _5.1", true},
		{"drop _5.0", false},
		{"drop _16", false},
		{"drop _11.1.*.0", true},
		{"drop _7.*", false},
		{"drop _7.*.1", false},
		{"drop _19.*", false},
		{"drop _3", false},
		{"drop _21.*", true},
		{"dead _21", true},
		{"dead _21.*", false},
		{"dead _0", false},
		{"dead _22", false},
	} {
		u, p := pointUnit()
		*p = pointOf(0, c.point)
		if fn, q, e := graph.Check(u); (e == api.OK) != c.may || !c.may && (fn != 1 || q != 0) {
			t.Errorf("%s: %d, %d, %v; may it be: %v", c.point, fn, q, e, c.may)
		}
		mustCheck(t, u)
	}
}
