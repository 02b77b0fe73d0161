package typing_test

import (
	"reflect"
	"testing"

	"loanword/api"
	"loanword/tree"
	"loanword/typing"
)

// ranges are the memory of all lists in a value: where each begins, and how long it is with what lies behind it.
func ranges(v reflect.Value) [][2]uintptr {
	var l [][2]uintptr
	switch v.Kind() {
	case reflect.Struct:
		for i := range v.NumField() {
			l = append(l, ranges(v.Field(i))...)
		}
	case reflect.Slice:
		if v.Cap() > 0 {
			l = append(l, [2]uintptr{v.Pointer(), v.Pointer() + uintptr(v.Cap())*v.Type().Elem().Size()})
		}
		for i := range v.Len() {
			l = append(l, ranges(v.Index(i))...)
		}
	}
	return l
}

// mustBeApart asks that no two lists of these values have memory in common.
func mustBeApart(t *testing.T, what string, l ...any) {
	t.Helper()
	var all [][2]uintptr
	for _, v := range l {
		all = append(all, ranges(reflect.ValueOf(v))...)
	}
	for i, a := range all {
		for _, b := range all[:i] {
			if a[0] < b[1] && b[0] < a[1] {
				t.Errorf("%s: two lists share memory", what)
				return
			}
		}
	}
	if len(all) < 10 {
		t.Errorf("%s: only %d lists", what, len(all))
	}
}

// P8.1: an answer shares no memory with what is handed in, with another answer, or within itself.
func TestOfSharesNothing(t *testing.T) {
	for _, s := range []string{greatText(), inMain(some), "fn f(x: &Box<&i64>) -> i64 { let y = x; let z = y; let u: &Box<&i64> = z; return ***u; } fn main() -> i64 { return 0; }"} {
		f := file(t, s)
		own, _ := tree.Own(f)
		x, _, e := typing.Of(f)
		y, _, _ := typing.Of(f)
		if e != api.OK {
			t.Fatal(s, e)
		}
		mustBeApart(t, s, f, x, y)
		if !reflect.DeepEqual(f, own) {
			t.Errorf("%q: the tree was changed", s)
		}
	}
}

// P8.2 to P8.4: what is handed in stays as it is; what Scope answers is new.
func TestAskingChangesNothing(t *testing.T) {
	x := of(t, greatText())
	want := again(x)
	for n := range x.Tree.Nodes {
		typing.Place(x, n)
		typing.Through(x, n)
		typing.Moves(x, n)
		typing.Fn(x, n)
		a, _ := typing.Scope(x, n)
		b, _ := typing.Scope(x, n)
		for i := range a {
			a[i] = -9
		}
		if len(b) > 0 && b[0] == -9 {
			t.Fatal("two answers share memory")
		}
	}
	if !reflect.DeepEqual(x, want) {
		t.Error("what was handed in was changed")
	}
}

// P8.1: nothing is kept from call to call.
func TestNothingIsKept(t *testing.T) {
	good, bad := file(t, greatText()), file(t, inMain("loop { let x = 1; if true { print(y); } }"))
	want, _, _ := typing.Of(good)
	for range 3 {
		if x, at, e := typing.Of(bad); e != api.ErrVar || at == 0 || !reflect.DeepEqual(x, api.Typed{}) {
			t.Errorf("%d, %v", at, e)
		}
		if x, _, e := typing.Of(good); e != api.OK || !reflect.DeepEqual(x, want) {
			t.Errorf("%v", e)
		}
	}
}
