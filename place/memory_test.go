package place_test

import (
	"reflect"
	"slices"
	"testing"

	"loanword/api"
	"loanword/place"
)

// ranges are the memory of all lists in a value, with what lies behind their ends.
func ranges(v reflect.Value) [][2]uintptr {
	var l [][2]uintptr
	switch v.Kind() {
	case reflect.Struct:
		for i := range v.NumField() {
			l = append(l, ranges(v.Field(i))...)
		}
	case reflect.Slice:
		if v.Cap() > 0 {
			l = append(l, [2]uintptr{v.Pointer(), v.Pointer() + uintptr(v.Cap())*v.Type().Elem().Size()})
		}
		for i := range v.Len() {
			l = append(l, ranges(v.Index(i))...)
		}
	}
	return l
}

// mustBeApart asks that no two lists of these values have memory in common.
func mustBeApart(t *testing.T, what string, l ...any) {
	t.Helper()
	var all [][2]uintptr
	for _, v := range l {
		all = append(all, ranges(reflect.ValueOf(v))...)
	}
	for i, a := range all {
		for _, b := range all[:i] {
			if a[0] < b[1] && b[0] < a[1] {
				t.Fatalf("%s: two lists share memory", what)
			}
		}
	}
}

// P9.1, P9.2: answers share no memory with what is handed in, with one another, within themselves; what is handed in stays as it is.
func TestAnswersShareNothing(t *testing.T) {
	w, same := richWorld(t), richWorld(t)
	for _, p := range w.allPlaces(4) {
		own := at(p.Local, slices.Clone(p.Path)...)
		var answers []any
		for range 2 {
			x, _ := place.Type(w.structs, w.locals, p)
			l, _ := place.Goes(w.structs, w.locals, p)
			h, _ := place.Held(w.structs, w.locals, p)
			answers = append(answers, x, l, h, place.Prefixes(p))
			place.Within(w.structs, w.locals, p, p, api.Deep)
			place.Text(p)
		}
		mustBeApart(t, place.Text(p), append(answers, w.structs, w.locals, p)...)
		if !reflect.DeepEqual(p, own) {
			t.Fatalf("%v was %v", p, own)
		}
	}
	if !reflect.DeepEqual(w, same) {
		t.Error("what was handed in was changed")
	}
}

// P9.2: no prefix grows into another one.
func TestPrefixesGrowApart(t *testing.T) {
	path := []api.Step{3, deref, 0, 7, deref, deref, 1, 2, 5, 6}
	for n := range path {
		p := at(6, path[:n]...)
		l := place.Prefixes(p)
		for i := range l {
			_ = append(l[i].Path, 99, 98)
		}
		for i, q := range l {
			if q.Local != 6 || !slices.Equal(q.Path, path[:i]) {
				t.Fatalf("prefix %d of %d: %v", i, n, q)
			}
			for k := range q.Path {
				q.Path[k] = 77
			}
		}
		if !slices.Equal(p.Path, []api.Step{3, deref, 0, 7, deref, deref, 1, 2, 5, 6}[:n]) {
			t.Fatalf("the place was changed: %v", p)
		}
	}
}

// P9.2: what Held answers neither is nor grows into what was handed in.
func TestHeldGrowsApart(t *testing.T) {
	w := chapterWorld(t)
	for _, s := range []string{"_1.1.*", "_1.1", "_1", "_2.*.1", "_3.*.1.*"} {
		p := read(t, s)
		h, e := place.Held(w.structs, w.locals, p)
		if e != api.OK {
			t.Fatal(s, e)
		}
		for k := range h.Path {
			h.Path[k] = 77
		}
		_ = append(h.Path, 99)
		if place.Text(p) != s {
			t.Errorf("%s was changed: %v", s, p)
		}
	}
}

// P9.3: what is read shares no memory with what was read before.
func TestReadSharesNothing(t *testing.T) {
	const s = "_1.*.0.1"
	a, b := read(t, s), read(t, s)
	mustBeApart(t, s, a, b)
	a.Path[0] = 9
	if place.Text(b) != s || place.Text(read(t, s)) != s {
		t.Error("two answers share memory")
	}
}
