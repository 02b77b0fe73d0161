package graph_test

import (
	"math"
	"testing"

	"loanword/api"
	"loanword/graph"
)

// P10.1: the chapter's examples.
func TestChapterChecks(t *testing.T) {
	life := world()
	life.Fns[1].Lives = 1
	moved := world()
	moved.Fns[1].Points[3] = pointOf(3, "_0 = move _0")
	lent := world()
	lent.Fns[1].Points[2] = pointOf(2, "_4 = &mut _3.*")
	for _, c := range []struct {
		u     api.Unit
		fn, q int
		e     api.Errno
	}{
		{api.Unit{}, -1, -1, api.ErrGraph},
		{world(), 0, 0, api.OK},
		{life, 1, -1, api.ErrGraph},
		{moved, 1, 3, api.ErrGraph},
		{lent, 1, 2, api.ErrGraph},
	} {
		if fn, q, e := graph.Check(c.u); fn != c.fn || q != c.q || e != c.e {
			t.Errorf("Check: %d, %d, %v; want %d, %d, %v", fn, q, e, c.fn, c.q, c.e)
		}
		mustCheck(t, c.u)
	}
}

// P10.1: what is neither a graph's nor a point's.
func TestUnits(t *testing.T) {
	change := map[string]func(u *api.Unit){
		"no graphs":        func(u *api.Unit) { u.Fns = nil },
		"main below":       func(u *api.Unit) { u.Main = -1 },
		"main above":       func(u *api.Unit) { u.Main = 2 },
		"main far":         func(u *api.Unit) { u.Main = math.MinInt },
		"struct too small": func(u *api.Unit) { u.Structs[2].Fields = nil },
		"struct endless":   func(u *api.Unit) { u.Structs[2].Fields[0].Type = typeOf("#2") },
		"struct lends":     func(u *api.Unit) { u.Structs[2].Fields[0].Type = typeOf("&i64") },
		"too many structs": func(u *api.Unit) { u.Structs = append(u.Structs, make([]api.Struct, 30)...) },
		"too many graphs": func(u *api.Unit) {
			for len(u.Fns) < 33 {
				u.Fns = append(u.Fns, u.Fns[1])
			}
		},
	}
	for what, change := range change {
		u := world()
		change(&u)
		if fn, q, e := graph.Check(u); fn != -1 || q != -1 || e != api.ErrGraph {
			t.Errorf("%s: %d, %d, %v", what, fn, q, e)
		}
		mustCheck(t, u)
	}
	u := world()
	for len(u.Fns) < api.MaxItems {
		u.Fns = append(u.Fns, api.Graph{Locals: typesOf("bool"), Names: make([]string, 1), Points: []api.Point{{Op: api.Return}}})
	}
	for len(u.Structs) < api.MaxItems {
		u.Structs = append(u.Structs, structOf("i64"))
	}
	if !mustCheck(t, u) {
		t.Errorf("as many structs and graphs as may be are refused")
	}
}

// P10.1: what is first not so, where several things are not.
func TestFirstFault(t *testing.T) {
	spoil := []struct {
		fn, q int
		spoil func(u *api.Unit)
	}{
		{-1, -1, func(u *api.Unit) { u.Structs[0].Fields = nil }},
		{0, -1, func(u *api.Unit) { u.Fns[0].Names = nil }},
		{1, -1, func(u *api.Unit) { u.Fns[1].Lives = 1 }},
		{0, 0, func(u *api.Unit) { u.Fns[0].Points[0].At = -1 }},
		{0, 2, func(u *api.Unit) { u.Fns[0].Points[2].Next = 4 }},
		{1, 0, func(u *api.Unit) { u.Fns[1].Points[0].To.Local = 0 }},
		{1, 4, func(u *api.Unit) { u.Fns[1].Points[4].Op = api.NoPoint }},
	}
	for set := 1; set < 1<<len(spoil); set++ {
		u := world()
		first := -1
		for i := len(spoil) - 1; i >= 0; i-- {
			if set>>i&1 == 1 {
				spoil[i].spoil(&u)
				first = i
			}
		}
		if fn, q, e := graph.Check(u); fn != spoil[first].fn || q != spoil[first].q || e != api.ErrGraph {
			t.Errorf("faults %b: %d, %d, %v; want %d, %d", set, fn, q, e, spoil[first].fn, spoil[first].q)
		}
		mustRefuseGraph(t, u, 0)
		mustRefuseGraph(t, u, 1)
	}
}
