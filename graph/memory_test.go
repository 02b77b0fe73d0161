package graph_test

import (
	"reflect"
	"testing"
	"unsafe"

	"loanword/api"
	"loanword/graph"
)

// ranges are the memory of all lists and texts in a value, with what lies behind the lists' ends.
func ranges(v reflect.Value) [][2]uintptr {
	var l [][2]uintptr
	switch v.Kind() {
	case reflect.Struct:
		for i := range v.NumField() {
			l = append(l, ranges(v.Field(i))...)
		}
	case reflect.Slice:
		if v.Cap() > 0 {
			l = append(l, [2]uintptr{v.Pointer(), v.Pointer() + uintptr(v.Cap())*v.Type().Elem().Size()})
		}
		for i := range v.Len() {
			l = append(l, ranges(v.Index(i))...)
		}
	}
	return l
}

// mustBeApart asks that no two lists of these values have memory in common.
func mustBeApart(t *testing.T, what string, l ...any) {
	t.Helper()
	var all [][2]uintptr
	for _, v := range l {
		all = append(all, ranges(reflect.ValueOf(v))...)
	}
	for i, a := range all {
		for _, b := range all[:i] {
			if a[0] < b[1] && b[0] < a[1] {
				t.Fatalf("%s: two lists share memory", what)
			}
		}
	}
}

// roomy is a unit in which each list has room behind its end, into which nobody may lay anything.
func roomy(v reflect.Value) reflect.Value {
	x := reflect.New(v.Type()).Elem()
	switch v.Kind() {
	case reflect.Struct:
		for i := range v.NumField() {
			x.Field(i).Set(roomy(v.Field(i)))
		}
	case reflect.Slice:
		x = reflect.MakeSlice(v.Type(), v.Len(), v.Len()+3)
		for i := range v.Len() {
			x.Index(i).Set(roomy(v.Index(i)))
		}
	default:
		x.Set(v)
	}
	return x
}

// P10.1, P10.2: answers share no memory with what is handed in, with one another, within themselves; what is handed in stays as it is.
func TestAnswersShareNothing(t *testing.T) {
	c := byChance(114)
	for range 30 {
		u := roomy(reflect.ValueOf(c.unit())).Interface().(api.Unit)
		before := own(u)
		a, _ := graph.Own(u)
		b, _ := graph.Own(u)
		mustBeApart(t, "Own", u, a, b)
		for fn, g := range u.Fns {
			for q, p := range g.Points {
				l, _ := graph.Operands(u, fn, q)
				m, _ := graph.Operands(u, fn, q)
				to, _, _ := graph.Assigns(u, fn, q)
				too, _, _ := graph.Assigns(u, fn, q)
				n, _ := graph.Next(u, fn, q)
				o, _ := graph.Next(u, fn, q)
				graph.Text(u, fn, q)
				mustBeApart(t, "a point's", p, l, m, to, too, n, o)
			}
			for _, p := range allPlaces(u, fn, 3) {
				x, _ := graph.Type(u, fn, p)
				y, _ := graph.Type(u, fn, p)
				mustBeApart(t, "Type", u.Structs, g.Locals, p, x, y)
			}
			k, _ := graph.Calls(u, fn)
			l, _ := graph.Calls(u, fn)
			m, _ := graph.Lines(u, fn)
			n, _ := graph.Lines(u, fn)
			mustBeApart(t, "a graph's", g, k, l, m, n)
		}
		graph.Check(u)
		graph.Same(u, a)
		if !reflect.DeepEqual(own(u), before) {
			t.Fatalf("%+v, then %+v", before, u)
		}
	}
}

// P10.1: what Own answers keeps its texts, whatever becomes of the memory of those that were handed in.
func TestOwnTexts(t *testing.T) {
	u := world()
	memory := []byte("name")
	text := unsafe.String(&memory[0], len(memory))
	sign := []byte("+")
	u.Structs[0].Name, u.Structs[0].Fields[0].Name, u.Fns[0].Name, u.Fns[0].Names[1] = text, text, text, text
	u.Fns[1].Points[0] = pointOf(0, "_0 = 1 + 2")
	u.Fns[1].Points[0].Sign = unsafe.String(&sign[0], len(sign))
	x, e := graph.Own(u)
	if e != api.OK {
		t.Fatal(e)
	}
	copy(memory, "gone")
	copy(sign, "-")
	if x.Structs[0].Name != "name" || x.Structs[0].Fields[0].Name != "name" || x.Fns[0].Name != "name" || x.Fns[0].Names[1] != "name" || x.Fns[1].Points[0].Sign != "+" {
		t.Errorf("%+v", x)
	}
}
