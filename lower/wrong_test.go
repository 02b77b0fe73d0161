package lower_test

import (
	"fmt"
	"reflect"
	"slices"
	"testing"

	"loanword/api"
	"loanword/lower"
)

// some is a file that has most of what there can be.
const some = "struct P { a: i64, b: Box<i64> } struct Q { p: P, q: Box<Q>, t: bool } " +
	"fn main() -> i64 { let p = P { b: box(2), a: read() }; let r = &mut p; { let p = -g(); while p < 3 { p = p + 1; continue; } } let q: Box<i64>; q = box((*r).a); " +
	"loop { let c = p.b; if !(1 == *c) && true || false { break; } } print(*p.b); let i = &p.a; f(&p, r, &i); h(); return 0; } " +
	"fn f<'a, 'b: 'a>(x: &'a P, y: &'b mut P, z: & &i64) -> &'a P { let u: &'b P; let v: & &'a P = &x; let w = &mut *y; if (*x).a == **z { return x; } else { } let b = *v; return &*w; } " +
	"fn g() -> i64 { return 0; } fn h() -> Box<i64> { return box(1); }"

// changes are the ways in which one thing in a value can be another one: each sets it, and answers what sets it back.
func changes(path string, v reflect.Value, each func(path string, set func() (back func()))) {
	to := func(path string, x reflect.Value) {
		each(path, func() func() {
			was := reflect.New(v.Type()).Elem()
			was.Set(v)
			v.Set(x)
			return func() { v.Set(was) }
		})
	}
	switch v.Kind() {
	case reflect.Struct:
		for i := range v.NumField() {
			changes(path+"."+v.Type().Field(i).Name, v.Field(i), each)
		}
	case reflect.Slice:
		for i := range v.Len() {
			changes(fmt.Sprintf("%s[%d]", path, i), v.Index(i), each)
		}
		if v.Len() > 0 {
			to(path+" less", v.Slice(0, v.Len()-1))
		}
		more := reflect.AppendSlice(reflect.MakeSlice(v.Type(), 0, v.Len()+1), v)
		to(path+" more", reflect.Append(more, reflect.Zero(v.Type().Elem())))
	case reflect.Int:
		to(path+"+1", reflect.ValueOf(int(v.Int())+1).Convert(v.Type()))
		to(path+"-1", reflect.ValueOf(int(v.Int())-1).Convert(v.Type()))
	case reflect.Uint8:
		to(path, reflect.ValueOf(v.Uint()+1).Convert(v.Type()))
	case reflect.Bool:
		to(path, reflect.ValueOf(!v.Bool()))
	case reflect.String:
		to(path, reflect.ValueOf(v.String()+"x"))
	}
}

// P11.1: a Typed with anything else in it than what typing answers of its tree is refused by all calls.
func TestChangedIsRefused(t *testing.T) {
	x := typed(t, some)
	if !mustHold(t, x) {
		t.Fatal("it is too large")
	}
	tried := 0
	for _, part := range []any{&x.Decls, &x.Vars, &x.Of, &x.Means} {
		v := reflect.ValueOf(part).Elem()
		changes(v.Type().String(), v, func(path string, set func() func()) {
			if tried++; tried%5 != 0 {
				return
			}
			back := set()
			mustRefuse(t, path, x)
			back()
		})
	}
	if tried < 1500 || !mustHold(t, x) {
		t.Errorf("%d changes", tried)
	}
}

// P11.1: a tree that may not be, or is no file, or is another one's, is refused.
func TestWrongTrees(t *testing.T) {
	x := typed(t, some)
	mustRefuse(t, "nothing", api.Typed{})
	mustRefuse(t, "a tree alone", api.Typed{Tree: x.Tree})
	mustRefuse(t, "no tree", api.Typed{Decls: x.Decls, Vars: x.Vars, Of: x.Of, Means: x.Means})
	other := typed(t, inMain(""))
	other.Tree = x.Tree
	mustRefuse(t, "another one's tree", other)
	for n := range x.Tree.Nodes {
		y := x
		y.Tree.Nodes = slices.Clone(x.Tree.Nodes)
		y.Tree.Nodes[n].L = append(slices.Clone(y.Tree.Nodes[n].L), 0)
		mustRefuse(t, "a tree that goes round", y)
		y.Tree.Nodes[n] = x.Tree.Nodes[n]
		y.Tree.Nodes[n].At = -1
		mustRefuse(t, "a place below 0", y)
	}
	y := x
	y.Tree.Nodes = slices.Clone(x.Tree.Nodes)
	y.Tree.Nodes[5].At += 1000
	if !mustHold(t, y) { // where nodes stand is the tree's own business
		t.Errorf("a node that stands elsewhere: too large")
	}
}

// P11.1: no such function.
func TestWrongFunctions(t *testing.T) {
	x := typed(t, some)
	for _, fn := range []int{-1 << 63, -4, -1, 4, 5, 32, 1<<63 - 1} {
		mustRefuseFn(t, "a function that is not there", x, fn)
	}
	for fn := range 4 {
		if _, e := lower.Fn(x, fn); e != api.OK {
			t.Errorf("%d: %v", fn, e)
		}
	}
}
