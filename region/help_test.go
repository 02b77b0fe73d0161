package region_test

import (
	"fmt"
	"reflect"
	"slices"
	"strconv"
	"strings"
	"testing"

	"loanword/api"
	"loanword/graph"
	"loanword/lower"
	"loanword/parse"
	"loanword/place"
	"loanword/region"
	"loanword/types"
	"loanword/typing"
)

// typeOf is the type of a text of layer 6.
func typeOf(s string) api.Type {
	x, _, e := types.Read(s)
	if e != api.OK {
		panic("no type: " + s)
	}
	return x
}

// textOf is its text; of what may be no type all that stands there.
func textOf(t api.Type) string {
	s, e := types.Text(t)
	if e != api.OK {
		return fmt.Sprintf("%+v", t)
	}
	return s
}

// textsOf are the texts of these types, each behind a blank.
func textsOf(l []api.Type) string {
	s := ""
	for _, t := range l {
		s += " " + textOf(t) + ";"
	}
	return s
}

// structOf is a struct of fields of these types.
func structOf(l ...string) api.Struct {
	var s api.Struct
	for _, f := range l {
		s.Fields = append(s.Fields, api.Field{Name: "f" + strconv.Itoa(len(s.Fields)), Type: typeOf(f)})
	}
	return s
}

// at is the place of a text of layer 9.
func at(s string) api.Place {
	p, e := place.Read(s)
	if e != api.OK {
		panic("no place: " + s)
	}
	return p
}

// graphOf is a graph with so many lifetimes and parameters, locals of these types ("i64; &'0 i64") and these points, each of which goes on to the next one, the last one to itself.
func graphOf(lives, params int, locals string, points ...api.Point) api.Graph {
	g := api.Graph{Lives: lives, Params: params, Points: points}
	for _, s := range strings.Split(locals, "; ") {
		g.Locals = append(g.Locals, typeOf(s))
		g.Names = append(g.Names, "")
	}
	for q, p := range points {
		if p.Op != api.Return {
			g.Points[q].Next = min(q+1, len(points)-1)
		}
	}
	return g
}

var (
	goOn    = api.Point{Op: api.Goto}
	goBack  = api.Point{Op: api.Return}
	mainFn  = func() api.Graph { return graphOf(0, 0, "i64", goBack) }
	unitOf  = func(l ...api.Graph) api.Unit { return api.Unit{Fns: append([]api.Graph{mainFn()}, l...)} }
	structs = []api.Struct{structOf("i64", "Box<i64>"), structOf("#0", "Box<#1>", "bool")}
)

func borrow(to, from string) api.Point { return api.Point{Op: api.Borrow, To: at(to), From: at(from)} }

func borrowMut(to, from string) api.Point {
	return api.Point{Op: api.Borrow, To: at(to), From: at(from), Mut: true}
}

// call is a Call with copies of these places.
func call(to string, fn int, args ...string) api.Point {
	p := api.Point{Op: api.Call, To: at(to), Fn: fn}
	for _, s := range args {
		p.Args = append(p.Args, api.Operand{Kind: api.Copy, Place: at(s)})
	}
	return p
}

// lowered are the graphs of a program.
func lowered(t *testing.T, text string) api.Unit {
	t.Helper()
	f, at, e := parse.File(text)
	if e != api.OK {
		t.Fatalf("%q: at %d, %v", text, at, e)
	}
	x, n, e := typing.Of(f)
	if e != api.OK {
		t.Fatalf("%q: node %d, %v", text, n, e)
	}
	u, fn, e := lower.Unit(x)
	if e != api.OK {
		t.Fatalf("%q: function %d, %v", text, fn, e)
	}
	return u
}

// mustMay asks that a unit may be: what is refused of it is then refused for what is wrong elsewhere.
func mustMay(t *testing.T, u api.Unit) {
	t.Helper()
	if fn, q, e := graph.Check(u); e != api.OK {
		t.Fatalf("function %d, point %d: %v: %+v", fn, q, e, u)
	}
}

// mustHave asks for these regions of a graph.
func mustHave(t *testing.T, u api.Unit, fn, count int, at []int, locals string) api.Regions {
	t.Helper()
	mustMay(t, u)
	r, e := region.Of(u, fn)
	if e != api.OK {
		t.Fatal(e)
	}
	if r.Count != count || !slices.Equal(r.At, at) || r.Lives != u.Fns[fn].Lives || r.Points != len(u.Fns[fn].Points) {
		t.Fatalf("%+v; want %d regions, at the points %v", r, count, at)
	}
	if s := textsOf(r.Locals); s != locals {
		t.Fatalf("locals%s want%s", s, locals)
	}
	return r
}

// mustType asks for a type.
func mustType(t *testing.T, what string, x api.Type, e api.Errno, want string) {
	t.Helper()
	if e != api.OK || textOf(x) != want {
		t.Fatalf("%s: %s, %v; want %s", what, textOf(x), e, want)
	}
}

// mustNoType asks for an error, and for nothing beside it.
func mustNoType(t *testing.T, what string, x api.Type, e, want api.Errno) {
	t.Helper()
	if e != want || !reflect.DeepEqual(x, api.Type{}) {
		t.Fatalf("%s: %s, %v; want %v", what, textOf(x), e, want)
	}
}

// mustNotCall asks that Called answers an error, and nothing beside it.
func mustNotCall(t *testing.T, u api.Unit, fn, point int, want api.Errno) {
	t.Helper()
	if l, x, e := region.Called(u, fn, point); e != want || len(l) != 0 || !reflect.DeepEqual(x, api.Type{}) {
		t.Fatalf("Called at %d:%s %s, %v; want %v", point, textsOf(l), textOf(x), e, want)
	}
}

// mustNotBorrow asks that Borrowed answers an error, and nothing beside it.
func mustNotBorrow(t *testing.T, u api.Unit, fn, point int, want api.Errno) {
	t.Helper()
	x, e := region.Borrowed(u, fn, point)
	mustNoType(t, fmt.Sprint("Borrowed at ", point), x, e, want)
}
