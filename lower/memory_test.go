package lower_test

import (
	"reflect"
	"testing"
	"unsafe"

	"loanword/api"
	"loanword/lower"
)

// ranges are the memory of all lists in a value, with what lies behind their ends.
func ranges(v reflect.Value) [][2]uintptr {
	var l [][2]uintptr
	switch v.Kind() {
	case reflect.Struct:
		for i := range v.NumField() {
			l = append(l, ranges(v.Field(i))...)
		}
	case reflect.Slice:
		if v.Cap() > 0 {
			l = append(l, [2]uintptr{v.Pointer(), v.Pointer() + uintptr(v.Cap())*v.Type().Elem().Size()})
		}
		for i := range v.Len() {
			l = append(l, ranges(v.Index(i))...)
		}
	}
	return l
}

// mustBeApart asks that no two lists of these values have memory in common.
func mustBeApart(t *testing.T, what string, l ...any) {
	t.Helper()
	var all [][2]uintptr
	for _, v := range l {
		all = append(all, ranges(reflect.ValueOf(v))...)
	}
	for i, a := range all {
		for _, b := range all[:i] {
			if a[0] < b[1] && b[0] < a[1] {
				t.Fatalf("%s: two lists share memory", what)
			}
		}
	}
	if len(all) < 100 {
		t.Errorf("%s: only %d lists", what, len(all))
	}
}

// roomy is a value in memory of its own, with room behind each list's end into which nobody may lay anything.
func roomy(v reflect.Value) reflect.Value {
	x := reflect.New(v.Type()).Elem()
	switch v.Kind() {
	case reflect.Struct:
		for i := range v.NumField() {
			x.Field(i).Set(roomy(v.Field(i)))
		}
	case reflect.Slice:
		if v.IsNil() {
			return v
		}
		x = reflect.MakeSlice(v.Type(), v.Len(), v.Len()+3)
		for i := range v.Len() {
			x.Index(i).Set(roomy(v.Index(i)))
		}
	default:
		x.Set(v)
	}
	return x
}

func apart(x api.Typed) api.Typed { return roomy(reflect.ValueOf(x)).Interface().(api.Typed) }

// Answers share no memory with what is handed in, with one another, within themselves; what is handed in stays as it is.
func TestAnswersShareNothing(t *testing.T) {
	for _, x := range append(files(t, 115, 5), typed(t, some)) {
		x = apart(x)
		before := apart(x)
		a, _, e := lower.Unit(x)
		b, _, _ := lower.Unit(x)
		if e != api.OK {
			continue
		}
		g, _ := lower.Fn(x, 1)
		h, _ := lower.Fn(x, 1)
		lower.Size(x, 1)
		mustBeApart(t, "answers", x, a, b, g, h)
		if !reflect.DeepEqual(x, before) {
			t.Fatal("what was handed in was changed")
		}
	}
}

// What is answered keeps its texts, whatever becomes of the memory of those that were handed in.
func TestTextsAreOwn(t *testing.T) {
	memory := []byte(some)
	x := typed(t, unsafe.String(&memory[0], len(memory)))
	want := unit(t, typed(t, some))
	var lent []byte
	lend := func(s *string) {
		from := len(lent)
		lent = append(lent, *s...)
		if len(*s) > 0 {
			*s = unsafe.String(&lent[from], len(*s))
		}
	}
	lent = make([]byte, 0, 1<<16)
	for n := range x.Tree.Nodes {
		lend(&x.Tree.Nodes[n].S)
	}
	for n := range x.Decls.Sigs {
		lend(&x.Decls.Sigs[n].Name)
	}
	for _, vars := range x.Vars {
		for v := range vars {
			lend(&vars[v].Name)
		}
	}
	for _, s := range x.Decls.Structs {
		for f := range s.Fields {
			lend(&s.Fields[f].Name)
		}
	}
	u := unit(t, x)
	for i := range lent {
		lent[i] = '?'
	}
	clear(memory)
	if !reflect.DeepEqual(u, want) {
		t.Errorf("%+v; want %+v", u, want)
	}
}

// Nothing is kept from call to call: what was too large, or wrong, is not to be seen in the next answer.
func TestNothingIsKept(t *testing.T) {
	good, large := typed(t, some), typed(t, inMain(many("print(1);", 2000)))
	want := unit(t, good)
	for range 3 {
		if _, fn, e := lower.Unit(large); fn != 5 || e != api.ErrPoint {
			t.Errorf("%d, %v", fn, e)
		}
		if _, _, e := lower.Unit(api.Typed{}); e != api.ErrArg {
			t.Error(e)
		}
		if u := unit(t, good); !reflect.DeepEqual(u, want) {
			t.Errorf("%+v; want %+v", u, want)
		}
	}
}
