package typing_test

import (
	"fmt"
	"reflect"
	"testing"

	"loanword/api"
	"loanword/tree"
	"loanword/typing"
)

// greatText is a file that has most of what there can be.
func greatText() string {
	return "struct P { a: i64, b: Box<i64> } struct Q { p: P, q: Box<Q>, t: bool } " +
		"fn f<'a, 'b: 'a>(x: &'a P, y: &'b mut P, z: & &i64) -> &'a P { let u: &'b P; let v: & &'a P = &x; let w = &mut *y; if (*x).a == **z { return x; } let b = *v; return &*w; } " +
		"fn g() -> i64 { return 0; } " +
		"fn main() -> i64 { let p = P { b: box(2), a: read() }; let r = &mut p; { let p = -g(); while p < 3 { p = p + 1; continue; } } let q: Box<i64>; q = box((*r).a); " +
		"loop { let c = p.b; if !(1 == *c) && true { break; } } print(*p.b); let i = &p.a; f(&p, r, &i); return 0; }"
}

// change is one thing in a value that can be made another one.
type change struct {
	path     string
	do, undo func()
}

// changes are all numbers, names and bools in a value, one by one, and its lists, with one item less and one more.
func changes(path string, v reflect.Value) []change {
	var l []change
	add := func(path string, to reflect.Value) {
		was := reflect.New(v.Type()).Elem()
		was.Set(v)
		l = append(l, change{path, func() { v.Set(to) }, func() { v.Set(was) }})
	}
	switch v.Kind() {
	case reflect.Struct:
		for i := range v.NumField() {
			l = append(l, changes(path+"."+v.Type().Field(i).Name, v.Field(i))...)
		}
	case reflect.Slice:
		for i := range v.Len() {
			l = append(l, changes(fmt.Sprintf("%s[%d]", path, i), v.Index(i))...)
		}
		if v.Len() > 0 {
			add(path+" less", v.Slice(0, v.Len()-1))
			add(path+" none", reflect.Zero(v.Type()))
		}
		more := reflect.AppendSlice(reflect.MakeSlice(v.Type(), 0, v.Len()+1), v)
		add(path+" more", reflect.Append(more, reflect.Zero(v.Type().Elem())))
	case reflect.Int:
		add(path+"+1", reflect.ValueOf(int(v.Int())+1).Convert(v.Type()))
		add(path+"-1", reflect.ValueOf(int(v.Int())-1).Convert(v.Type()))
	case reflect.Uint8:
		add(path, reflect.ValueOf(v.Uint()+1).Convert(v.Type()))
	case reflect.Bool:
		add(path, reflect.ValueOf(!v.Bool()))
	case reflect.String:
		add(path, reflect.ValueOf(v.String()+"x"))
		add(path+" none", reflect.ValueOf(""))
	}
	return l
}

// P8.2: with anything else in any field it is not what Of answers; all other calls say so.
func TestMay(t *testing.T) {
	x := of(t, greatText())
	mustHold(t, x.Tree)
	if !typing.May(x) {
		t.Fatal("it may be")
	}
	tried := 0
	for _, part := range []any{&x.Decls, &x.Vars, &x.Of, &x.Means} {
		v := reflect.ValueOf(part).Elem()
		for _, c := range changes(v.Type().String(), v) {
			before := typing.May(x)
			was := again(x)
			c.do()
			changed := !reflect.DeepEqual(x, was)
			if !before || changed && typing.May(x) {
				t.Errorf("%s: May: %v, then true", c.path, before)
			}
			if tried++; changed && tried%40 == 0 {
				mustRefuse(t, x)
			}
			c.undo()
		}
	}
	if tried < 1500 || !typing.May(x) {
		t.Errorf("%d changes", tried)
	}
}

// again is what Of answers of the tree of x.
func again(x api.Typed) api.Typed {
	y, _, _ := typing.Of(x.Tree)
	return y
}

// mustRefuse asks all calls of one that may not be.
func mustRefuse(t *testing.T, x api.Typed) {
	t.Helper()
	for n := -1; n <= len(x.Tree.Nodes); n += 1 + len(x.Tree.Nodes)/12 {
		ref, shared := typing.Through(x, n)
		l, e := typing.Scope(x, n)
		fn, e2 := typing.Fn(x, n)
		if typing.May(x) || typing.Place(x, n) || ref || shared || typing.Moves(x, n) || len(l) > 0 || e != api.ErrArg || fn != 0 || e2 != api.ErrArg {
			t.Fatalf("%v, %d: taken", x, n)
		}
	}
}

// P8.2: a Typed of another tree, of a tree that is at fault, of none.
func TestMayOfTrees(t *testing.T) {
	x := of(t, greatText())
	mustRefuse(t, api.Typed{})
	mustRefuse(t, api.Typed{Tree: x.Tree})
	for _, s := range []string{replaced(greatText(), "print(*p.b)", "print(*p.c)"), replaced(greatText(), "fn main", "fn mine"), replaced(greatText(), "let r =", "let s =")} {
		y := x
		y.Tree = file(t, s)
		if _, _, e := typing.Of(y.Tree); e == api.OK {
			t.Fatalf("%q is well", s)
		}
		mustRefuse(t, y)
	}
	for _, s := range []string{"let i = &p.a; f(&p, r, &i);", "let u: &'b P;", "struct Q { p: P, q: Box<Q>, t: bool }"} {
		y := x
		y.Tree = of(t, replaced(greatText(), s, "")).Tree
		if typing.May(y) {
			t.Errorf("May of another tree, without %q", s)
		}
	}
	for _, f := range noFiles(t) {
		y := x
		y.Tree = f
		if typing.May(y) {
			t.Errorf("May of %v", f.Nodes)
		}
	}
	// What means nothing may be another one: places, a number.
	y := x
	y.Tree, _ = tree.Own(x.Tree)
	for n := range y.Tree.Nodes {
		y.Tree.Nodes[n].At = 5
		if y.Tree.Nodes[n].Kind == api.NInt {
			y.Tree.Nodes[n].N++
		}
	}
	if !typing.May(y) {
		t.Error("May hangs on places, or on a number's value")
	}
}

// P8.2: lists of nothing and none are the same.
func TestMayOfEmptyLists(t *testing.T) {
	x := of(t, greatText())
	var fill func(v reflect.Value)
	fill = func(v reflect.Value) {
		switch v.Kind() {
		case reflect.Struct:
			for i := range v.NumField() {
				fill(v.Field(i))
			}
		case reflect.Slice:
			if v.Len() == 0 {
				v.Set(reflect.MakeSlice(v.Type(), 0, 3))
			}
			for i := range v.Len() {
				fill(v.Index(i))
			}
		}
	}
	fill(reflect.ValueOf(&x).Elem())
	if !typing.May(x) || x.Vars[1] == nil || x.Of[0].Of == nil {
		t.Error("empty lists are not taken")
	}
	mustAsk(t, x)
}

// P8.2: whatever is in it, May answers.
func TestMayOfAnything(t *testing.T) {
	x := of(t, greatText())
	deep := api.Type{Kind: api.TyInt}
	for range 100000 {
		deep = api.Type{Kind: api.TyBox, Of: []api.Type{deep}}
	}
	wide := api.Type{Kind: api.TyBox, Of: make([]api.Type, 1<<16)}
	for _, is := range []api.Type{deep, wide, {Kind: 255}, {Kind: api.TyRef, Region: -7}} {
		for _, put := range []func(*api.Typed){
			func(y *api.Typed) { y.Of[len(y.Of)-1] = is },
			func(y *api.Typed) { y.Vars[0][0].Type = is },
			func(y *api.Typed) { y.Decls.Sigs[0].Answer = is },
			func(y *api.Typed) { y.Decls.Structs[0].Fields[1].Type = is },
		} {
			y := again(x)
			put(&y)
			if typing.May(y) {
				t.Errorf("May of a type of kind %d", is.Kind)
			}
		}
	}
	y := api.Typed{Tree: x.Tree, Decls: x.Decls, Vars: make([][]api.Var, 1<<20), Of: make([]api.Type, 1<<20), Means: make([]int, 1<<20)}
	mustRefuse(t, y)
}
