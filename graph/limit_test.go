package graph_test

import (
	"slices"
	"testing"

	"loanword/api"
	"loanword/graph"
)

// fullUnit is as great as one may be: structs, graphs, locals, points, each with as many operands and steps as may be.
func fullUnit() api.Unit {
	var u api.Unit
	deep := typeOf("#31")
	for range api.MaxNest - 1 {
		deep = api.Type{Kind: api.TyBox, Of: []api.Type{deep}}
	}
	for len(u.Structs) < api.MaxItems {
		s := structOf(slices.Repeat([]string{"i64"}, 8)...)
		for i := range 7 {
			s.Fields[i].Type = deep
		}
		u.Structs = append(u.Structs, s)
	}
	u.Structs[31] = structOf(slices.Repeat([]string{"i64"}, 8)...)
	locals := append(slices.Repeat([]string{"i64"}, 9), slices.Repeat([]string{"Box<Box<Box<Box<Box<Box<Box<#30>>>>>>>"}, api.MaxLocals-9)...)
	for fn := range api.MaxItems {
		g := graphOf(8, locals, slices.Repeat([]string{"return"}, api.MaxPoints)...)
		for q := range g.Points {
			var args []api.Operand
			for i := range 8 {
				args = append(args, api.Operand{Kind: api.Copy, Place: api.Place{Local: 9 + (q*8+i)%503, Path: []api.Step{deref, deref, deref, deref, deref, deref, deref, 7}}})
			}
			g.Points[q] = api.Point{Op: api.Call, Args: args, Fn: fn, Next: api.MaxPoints - 1 - q, To: args[0].Place}
		}
		u.Fns = append(u.Fns, g)
	}
	u.Fns[5] = graphOf(0, append([]string{"i64", "&mut i64"}, locals[9:]...), slices.Repeat([]string{"drop _9.*.*.*.*.*.*.*.0"}, api.MaxPoints-1)...)
	for k := range api.MaxLoans {
		u.Fns[5].Points[k*3] = pointOf(k*3, "_1 = &mut _0")
	}
	u.Fns[5].Points = append(u.Fns[5].Points, pointOf(0, "return"))
	for q := range u.Fns {
		if q != 5 {
			u.Fns[q].Points[7].Fn = (q + 1) % 32
			if u.Fns[q].Points[7].Fn == 5 {
				u.Fns[q].Points[7].Args = nil
			}
		}
	}
	u.Main = 5
	return u
}

// P10.1: the greatest unit may be, and is told at its last point if that is at fault.
func TestFullUnit(t *testing.T) {
	u := fullUnit()
	if fn, q, e := graph.Check(u); fn != 0 || q != 0 || e != api.OK {
		t.Fatalf("%d, %d, %v: %s", fn, q, e, told(u, fn, q))
	}
	x, e := graph.Own(u)
	if e != api.OK || !graph.Same(u, x) {
		t.Errorf("Own: %v", e)
	}
	if l, e := graph.Lines(u, 31); e != api.OK || len(l) != api.MaxPoints {
		t.Errorf("%d lines, %v", len(l), e)
	}
	if l, e := graph.Calls(u, 31); e != api.OK || !slices.Equal(l, []int{0, 31}) {
		t.Errorf("%v, %v", l, e)
	}
	last := &u.Fns[31].Points[api.MaxPoints-1]
	last.Args[7].Place.Path = append(last.Args[7].Place.Path, deref)
	if fn, q, e := graph.Check(u); fn != 31 || q != api.MaxPoints-1 || e != api.ErrGraph {
		t.Errorf("%d, %d, %v", fn, q, e)
	}
}

// A place of MaxSteps steps is one of a graph; with one step more it is none, whatever stands there.
func TestMostSteps(t *testing.T) {
	u := api.Unit{Fns: []api.Graph{graphOf(0, []string{"i64", "Box<Box<Box<Box<Box<Box<Box<Box<Box<i64>>>>>>>>>"}, "drop _1.*.*.*.*.*.*.*.*", "return")}}
	if !mustCheck(t, u) {
		t.Errorf("eight steps are refused")
	}
	u.Fns[0].Points[0] = api.Point{Op: api.Use, To: api.Place{}, A: api.Operand{Kind: api.Copy, Place: api.Place{Local: 1, Path: slices.Repeat([]api.Step{deref}, 9)}}, Next: 1}
	if mustCheck(t, u) {
		t.Errorf("nine steps are taken")
	}
}

// Lists far beyond what may be are refused, and soon.
func TestHugeLists(t *testing.T) {
	const huge = 1 << 20
	one := world()
	for what, change := range map[string]func(u *api.Unit){
		"graphs":   func(u *api.Unit) { u.Fns = make([]api.Graph, huge) },
		"structs":  func(u *api.Unit) { u.Structs = make([]api.Struct, huge) },
		"locals":   func(u *api.Unit) { u.Fns[1].Locals = make([]api.Type, huge) },
		"names":    func(u *api.Unit) { u.Fns[1].Names = make([]string, huge) },
		"points":   func(u *api.Unit) { u.Fns[1].Points = make([]api.Point, huge) },
		"outlives": func(u *api.Unit) { u.Fns[0].Outlives = make([]api.Outlives, huge) },
		"args":     func(u *api.Unit) { u.Fns[1].Points[1].Args = slices.Repeat(operandsOf("1"), huge) },
		"steps":    func(u *api.Unit) { u.Fns[1].Points[0].To.Path = make([]api.Step, huge) },
		"of":       func(u *api.Unit) { u.Fns[1].Locals[2].Of = make([]api.Type, huge) },
	} {
		u := own(one)
		change(&u)
		if graph.May(u) {
			t.Errorf("%s: taken", what)
		}
		mustRefuse(t, u, 1, 0)
	}
}
