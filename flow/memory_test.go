package flow_test

import (
	"reflect"
	"slices"
	"testing"

	"loanword/api"
	"loanword/flow"
)

// ranges are the memory of all lists in a value, with what lies behind their ends.
func ranges(v reflect.Value) [][2]uintptr {
	var l [][2]uintptr
	switch v.Kind() {
	case reflect.Struct:
		for i := range v.NumField() {
			l = append(l, ranges(v.Field(i))...)
		}
	case reflect.Slice:
		if v.Cap() > 0 {
			l = append(l, [2]uintptr{v.Pointer(), v.Pointer() + uintptr(v.Cap())*v.Type().Elem().Size()})
		}
		for i := range v.Len() {
			l = append(l, ranges(v.Index(i))...)
		}
	}
	return l
}

// mustBeApart asks that no two lists of these values have memory in common.
func mustBeApart(t *testing.T, l ...any) {
	t.Helper()
	var all [][2]uintptr
	for _, v := range l {
		all = append(all, ranges(reflect.ValueOf(v))...)
	}
	for i, a := range all {
		for _, b := range all[:i] {
			if a[0] < b[1] && b[0] < a[1] {
				t.Fatal("two lists share memory")
			}
		}
	}
}

// roomy is a list in memory of its own, with room behind its end into which nobody may lay anything.
func roomy(l ...int) []int {
	room := append(slices.Clone(l), -7, -7, -7)
	return room[:len(l):len(room)]
}

// mustBeLeft asks that a roomy list is as it was, the room behind it, too.
func mustBeLeft(t *testing.T, l []int, was ...int) {
	t.Helper()
	if room := append(slices.Clone(was), -7, -7, -7); !slices.Equal(l[:len(room)], room) {
		t.Fatalf("%v, then %v", room, l[:len(room)])
	}
}

// Answers share no memory with what is handed in, nor with one another; what is handed in stays as it is.
func TestAnswersShareNothing(t *testing.T) {
	c := byChance(133)
	for range 40 {
		points := 2 + c.Intn(15)
		g := c.graph(points)
		u, before := api.Unit{Fns: []api.Graph{g}}, api.Unit{Fns: []api.Graph{g}}
		before.Fns[0].Points = slices.Clone(g.Points)
		all := []any{u}
		for range 2 {
			for q := range points {
				l, _ := flow.Before(u, 0, q)
				m, _ := flow.Reach(u, 0, q)
				n, _ := flow.Above(u, 0, q)
				without := c.some(points, 3)
				handed := roomy(without...)
				way, _, _ := flow.Way(u, 0, 0, q, handed...)
				mustBeLeft(t, handed, without...)
				list := roomy(way...)
				flow.Is(u, 0, list...)
				mustBeLeft(t, list, way...)
				o, _ := flow.Loop(u, 0, q, q)
				all = append(all, l, m, n, handed, way, list, o)
			}
			l, _ := flow.Order(u, 0)
			m, _ := flow.Back(u, 0)
			n, _ := flow.Right(u, 0)
			all = append(all, l, m, n)
		}
		mustBeApart(t, all...)
		if !reflect.DeepEqual(u, before) {
			t.Fatalf("%+v, then %+v", before, u)
		}
	}
}

// Nothing is kept from call to call: what is changed by whoever was answered, and what was refused, is not to be seen in the next answer.
func TestNothingIsKept(t *testing.T) {
	u := unitOf(example)
	for range 3 {
		l, e := flow.Before(u, 0, 1)
		mustList(t, "Before", l, e, 0, 2)
		clear(l)
		l, e = flow.Reach(u, 0, 2)
		mustList(t, "Reach", l, e, 1, 2, 3, 5)
		clear(l)
		l, e = flow.Order(u, 0)
		mustList(t, "Order", l, e, 0, 4, 1, 2, 3, 5)
		clear(l)
		l, e = flow.Above(u, 0, 3)
		mustList(t, "Above", l, e, 0, 1, 2, 3)
		clear(l)
		l, e = flow.Right(u, 0)
		mustList(t, "Right", l, e, -1, 0, 1, 2, 0, 0, -1)
		clear(l)
		mustRefuse(t, "no function", u, 1)
		mustRefusePoint(t, "no point", u, 0, 7)
		mustWay(t, u, 0, 0, 5, []int{4}, []int{0, 1, 2, 3, 5})
		mustWay(t, u, 0, 0, 5, nil, []int{0, 4, 5})
	}
}
