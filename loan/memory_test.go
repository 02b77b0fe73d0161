package loan_test

import (
	"reflect"
	"slices"
	"testing"

	"loanword/api"
	"loanword/graph"
	"loanword/loan"
)

// memory is that of all lists in a value, with what lies behind their ends.
func memory(v reflect.Value) [][2]uintptr {
	var l [][2]uintptr
	switch v.Kind() {
	case reflect.Struct:
		for i := range v.NumField() {
			l = append(l, memory(v.Field(i))...)
		}
	case reflect.Slice:
		if v.Cap() > 0 {
			l = append(l, [2]uintptr{v.Pointer(), v.Pointer() + uintptr(v.Cap())*v.Type().Elem().Size()})
		}
		for i := range v.Len() {
			l = append(l, memory(v.Index(i))...)
		}
	}
	return l
}

// mustBeApart asks that no two lists of these values have memory in common.
func mustBeApart(t *testing.T, l ...any) {
	t.Helper()
	var all [][2]uintptr
	for _, v := range l {
		all = append(all, memory(reflect.ValueOf(v))...)
	}
	for i, a := range all {
		for _, b := range all[:i] {
			if a[0] < b[1] && b[0] < a[1] {
				t.Fatal("two lists share memory")
			}
		}
	}
}

// roomy is a list in memory of its own, with room behind its end into which nobody may lay anything.
func roomy[T any](l []T, room T) []T {
	long := append(slices.Clone(l), room, room, room)
	return long[:len(l):len(long)]
}

// answers are those of all calls of a graph.
func answers(u api.Unit, fn int, rows, ranges []api.Row) []any {
	loans, _ := loan.Of(u, fn)
	all := []any{loans}
	for q := range u.Fns[fn].Points {
		looks, _ := loan.Looks(u, fn, q)
		kills, _ := loan.Kills(u, fn, q)
		all = append(all, looks, kills)
		for k := range loans {
			loan.Breaks(u, fn, k, api.Access{Place: loans[0].Place, Depth: api.Deep})
			way, _, _ := loan.Why(u, fn, rows, k, q)
			all = append(all, way)
		}
	}
	least, _ := loan.Ranges(u, fn, rows)
	loan.Closed(u, fn, rows, ranges)
	loan.Broken(u, fn, ranges)
	return append(all, least)
}

// roomyPlaces lays room behind the ends of all paths of a unit.
func roomyPlaces(u api.Unit) {
	for _, g := range u.Fns {
		for q := range g.Points {
			p := &g.Points[q]
			for _, path := range []*[]api.Step{&p.To.Path, &p.From.Path, &p.A.Place.Path, &p.B.Place.Path} {
				if len(*path) > 0 {
					*path = roomy(*path, 7)
				}
			}
		}
	}
}

// Answers share no memory with what is handed in, nor with one another; what is handed in stays as it is, the room behind its lists' ends, too.
func TestAnswersShareNothing(t *testing.T) {
	c := byChance(169)
	for range 15 {
		u, _ := graph.Own(c.unit(1 + c.Intn(10)))
		roomyPlaces(u)
		before, e := graph.Own(u)
		if e != api.OK {
			t.Fatal(e)
		}
		all := []any{u}
		for fn := range u.Fns {
			r := regionsOf(t, u, fn)
			loans, _ := loan.Of(u, fn)
			rows, ranges := c.rowsOf(r), c.rows(len(loans), r.Points)
			for _, l := range [][]api.Row{rows, ranges} {
				for k, r := range l {
					l[k].Words = roomy(r.Words, 7)
				}
			}
			was := [2][][]int{listsOf(rows), listsOf(ranges)}
			all = append(all, rows, ranges)
			all = append(all, answers(u, fn, rows, ranges)...)
			all = append(all, answers(u, fn, rows, ranges)...)
			if !reflect.DeepEqual(was, [2][][]int{listsOf(rows), listsOf(ranges)}) {
				t.Fatal("a row was changed")
			}
			for _, r := range append(rows, ranges...) {
				if room := r.Words[len(r.Words) : len(r.Words)+3]; !slices.Equal(room, []uint64{7, 7, 7}) {
					t.Fatal("something lies behind a row's end")
				}
			}
		}
		mustBeApart(t, all...)
		if !graph.Same(u, before) {
			t.Fatal("the unit was changed")
		}
	}
}

// An access that is handed in stays as it is.
func TestAccessIsLeft(t *testing.T) {
	u := small()
	a := accessOf("_2.* deep written")
	a.Place.Path = roomy(a.Place.Path, 7)
	mustBreak(t, u, 1, 1, a, true)
	if !slices.Equal(a.Place.Path[:4], []api.Step{api.Deref, 7, 7, 7}) {
		t.Error(a)
	}
}

// Nothing is kept from call to call: what is changed by whoever was answered, and what was refused, is not to be seen in the next answer.
func TestNothingIsKept(t *testing.T) {
	u := small()
	h := all(t, u)
	for range 3 {
		for _, l := range mustOf(t, u, 1, "0 & _1.* '2, 1 &mut _2.* '3") {
			clear(l.Place.Path)
		}
		for _, a := range mustLook(t, u, 1, 1, "_2.* deep written, _3 shallow written") {
			clear(a.Place.Path)
		}
		for _, r := range mustRange(t, u, 1, h.rows, count(0, 5), count(0, 5)) {
			clear(r.Words)
		}
		way, _, _ := loan.Why(u, 1, h.rows, 1, 0)
		clear(way)
		mustWhy(t, u, 1, h.rows, 1, 0, 1, 2, 3, 0)
		kills, _ := loan.Kills(u, 1, 1)
		clear(kills)
		x := h
		x.fn = 3
		mustAnswer(t, "no function", u, x, everything, api.OK)
		mustAnswer(t, "small", u, h, "", api.OK)
	}
}

// Which function is asked counts, and of the others but what is called.
func TestOthersDoNotMatter(t *testing.T) {
	u := small()
	u.Fns = append(u.Fns, graphOf(1, 0, "&'0 i64; i64", "_0 = & _1; return"))
	for range 2 {
		mustOf(t, u, 1, "0 & _1.* '2, 1 &mut _2.* '3")
		mustOf(t, u, 3, "0 & _1 '1")
		u.Fns[3] = graphOf(2, 0, "&'1 i64; i64; &i64", "_2 = & _1; _0 = & _2.*; return")
		mustOf(t, u, 3, "0 & _1 '3, 1 & _2.* '4")
		u.Fns[3] = graphOf(1, 0, "&'0 i64; i64", "_0 = & _1; return")
	}
}
