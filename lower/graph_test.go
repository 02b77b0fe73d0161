package lower_test

import (
	"reflect"
	"slices"
	"strings"
	"testing"

	"loanword/api"
	"loanword/lower"
)

// P11.1: a graph's head is its signature's; lets with a type have the lifetimes that they name.
func TestHeads(t *testing.T) {
	x := typed(t, "fn main() -> i64 { let r: &Box<i64>; return 0; } struct S { a: Box<S> } "+
		"fn f<'a, 'b: 'a>(x: &'a mut &'b S, y: &i64) -> &'b i64 { let u: &'b &'a i64; let v: Box<&'a mut i64>; let w: & &'b i64; let z = y; let y: bool; return *w; } "+
		"fn g(x: &bool, y: Box<&bool>) -> bool { return *x; }")
	u := unit(t, x)
	for fn, want := range []struct {
		name             string
		lives, params    int
		outlives         []api.Outlives
		locals, variable string
	}{
		{"main", 0, 0, nil, "i64, &Box<i64>", ", r"},
		{"f", 3, 2, []api.Outlives{{Long: 1, Short: 0}}, "&'1 i64, &'0 mut &'1 #0, &'2 i64, &'1 &'0 i64, Box<&'0 mut i64>, & &'1 i64, &i64, &i64, bool, &i64", ", x, y, u, v, w, , z, y, "},
		{"g", 2, 2, nil, "bool, &'0 bool, Box<&'1 bool>, bool", ", x, y, "},
	} {
		g := u.Fns[fn]
		var locals []string
		for _, x := range g.Locals {
			locals = append(locals, typeText(x))
		}
		if g.Name != want.name || g.Lives != want.lives || g.Params != want.params || !slices.Equal(g.Outlives, want.outlives) ||
			strings.Join(locals, ", ") != want.locals || strings.Join(g.Names, ", ") != want.variable {
			t.Errorf("%q, %d, %d, %v, %q, %q; want %v", g.Name, g.Lives, g.Params, g.Outlives, strings.Join(locals, ", "), strings.Join(g.Names, ", "), want)
		}
	}
}

// P11.1: the structs are the file's, the graphs stand as the functions do, Main is main's number.
func TestUnit(t *testing.T) {
	for main, s := range []string{
		"fn main() -> i64 { return 0; } struct S { a: i64, t: T } fn f() -> i64 { return 0; } struct T { b: Box<S> } fn g() -> i64 { return 0; }",
		"struct S { a: i64, t: T } fn f() -> i64 { return 0; } fn main() -> i64 { return 0; } struct T { b: Box<S> } fn g() -> i64 { return 0; }",
		"struct S { a: i64, t: T } fn f() -> i64 { return 0; } struct T { b: Box<S> } fn g() -> i64 { return 0; } fn main() -> i64 { return 0; }",
	} {
		x := typed(t, s)
		u := unit(t, x)
		if u.Main != main || len(u.Fns) != 3 || u.Fns[main].Name != "main" || !reflect.DeepEqual(u.Structs, x.Decls.Structs) {
			t.Errorf("%q: %+v", s, u)
		}
		for fn, sig := range x.Decls.Sigs {
			if u.Fns[fn].Name != sig.Name {
				t.Errorf("%q: function %d is %s", s, fn, u.Fns[fn].Name)
			}
		}
	}
}

// P11.1: At is the place of the node for which a point is made.
func TestAt(t *testing.T) {
	for _, x := range []struct {
		statements string
		at         string // behind each point's text the source text where it stands
	}{
		{"let x = - read();", "_1 = read @read(); _2 = - copy _1 @- read; _3 = copy _2 @let x; dead _3 @{ let x; return @fn main"},
		{"let x = 1; x = x + (x);", "_1 = 1 @let x; _2 = copy _1 @x + (x; _3 = copy _1 @x);; _4 = copy _2 + copy _3 @x + (; _1 = copy _4 @x = x; dead _1 @{ let x; return @fn main"},
		{"let p: P; let r = &p; print((*r).a);", "_2 = & _1 @&p; _3 = copy _2 @let r; _4 = copy _3.*.0 @(*r).a; print copy _4 @print(; dead _3 @{ let p; dead _1 @{ let p; return @fn main"},
		{"if true && !false { print(1); } else { let y: i64; }",
			"if true -> 1 else 4 @true &&; _2 = ! false @!false; _1 = copy _2 @true &&; goto -> 5 @true &&; _1 = false @true &&; if copy _1 -> 6 else 8 @if true; print 1 @print(; goto -> 9 @if true; dead _3 @{ let y; return @fn main"},
		{"while true { let y: i64; break; continue; }",
			"if true -> 1 else 7 @while; dead _1 @break; goto -> 7 @break; dead _1 @continue; goto -> 0 @continue; dead _1 @{ let y; goto -> 0 @while; return @fn main"},
		{"loop { if false { } else if true { } else { } }", "if false -> 1 else 2 @if false; goto -> 4 @if false; if true -> 3 else 4 @if true; goto -> 4 @if true; goto -> 0 @loop; return @fn main"},
		{"two(1, true); return one();", "_1 = f1(1, true) @two(; drop _1 @two(; _2 = f0() @one(); _0 = copy _2 @return; return @return; return @fn main"},
		{"let p = P { b: box(1), a: 2 };", "_1 = box 1 @box(1; _2 = #0(2, move _1) @P { b: box(1); _3 = move _2 @let p; dead _3 @{ let p; return @fn main"},
	} {
		text := inMain(x.statements)
		u := unit(t, typed(t, text))
		_, points := shown(t, u)
		rest := x.at
		for q, p := range points {
			var ok bool
			if rest, ok = strings.CutPrefix(rest, p+" @"); !ok {
				t.Fatalf("%s: point %d is %s; want %s", x.statements, q, p, rest)
			}
			at := u.Fns[u.Main].Points[q].At
			source, behind, _ := strings.Cut(rest, "; ")
			if !strings.HasPrefix(text[at:], source) {
				t.Errorf("%s: %s stands at %q; want %q", x.statements, p, text[at:], source)
			}
			rest = behind
		}
	}
}

// P11.1: a point's At is its node's, not one of a node that stands at the same place in a text.
func TestAtOfNodes(t *testing.T) {
	x := numbered(t, typed(t, inMain("let a = 1 + 2 - 3; two(a, true);")))
	u := unit(t, x)
	want := []api.NodeKind{api.NBin, api.NBin, api.NLet, api.NVar, api.NCall, api.NExpr, api.NBlock, api.NFn}
	var got []api.NodeKind
	for _, p := range u.Fns[u.Main].Points {
		got = append(got, x.Tree.Nodes[p.At].Kind)
	}
	if !slices.Equal(got, want) {
		t.Errorf("%v; want %v", got, want)
	}
	if p := u.Fns[u.Main].Points; p[0].At <= p[1].At || x.Tree.Nodes[p[1].At].S != "-" || x.Tree.Nodes[p[len(p)-1].At].S != "main" {
		t.Errorf("%+v", p)
	}
}

// P11.1: Size says how much a graph has.
func TestSize(t *testing.T) {
	x := typed(t, inMain("let p: P; let q: P; ref(&p, &mut q); loop { let r = &p; break; } return p.a;"))
	u := unit(t, x)
	for fn, g := range u.Fns {
		points, locals, loans, e := lower.Size(x, fn)
		if points != len(g.Points) || locals != len(g.Locals) || loans != loansOf(g) || e != api.OK {
			t.Errorf("function %d: %d, %d, %d, %v; want %d, %d, %d", fn, points, locals, loans, e, len(g.Points), len(g.Locals), loansOf(g))
		}
	}
	if points, locals, loans, e := lower.Size(x, u.Main); points != 15 || locals != 9 || loans != 3 || e != api.OK {
		t.Errorf("%d, %d, %d, %v", points, locals, loans, e)
	}
}
