package outlive_test

import (
	"reflect"
	"slices"
	"testing"

	"loanword/api"
	"loanword/graph"
	"loanword/outlive"
	"loanword/types"
)

// ranges are the memory of all lists in a value, with what lies behind their ends.
func ranges(v reflect.Value) [][2]uintptr {
	var l [][2]uintptr
	switch v.Kind() {
	case reflect.Struct:
		for i := range v.NumField() {
			l = append(l, ranges(v.Field(i))...)
		}
	case reflect.Slice:
		if v.Cap() > 0 {
			l = append(l, [2]uintptr{v.Pointer(), v.Pointer() + uintptr(v.Cap())*v.Type().Elem().Size()})
		}
		for i := range v.Len() {
			l = append(l, ranges(v.Index(i))...)
		}
	}
	return l
}

// mustBeApart asks that no two lists of these values have memory in common.
func mustBeApart(t *testing.T, l ...any) {
	t.Helper()
	var all [][2]uintptr
	for _, v := range l {
		all = append(all, ranges(reflect.ValueOf(v))...)
	}
	for i, a := range all {
		for _, b := range all[:i] {
			if a[0] < b[1] && b[0] < a[1] {
				t.Fatal("two lists share memory")
			}
		}
	}
}

// roomy is a list in memory of its own, with room behind its end into which nobody may lay anything.
func roomy[T any](l []T, room T) []T {
	long := append(slices.Clone(l), room, room, room)
	return long[:len(l):len(long)]
}

// Answers share no memory with what is handed in, nor with one another; what is handed in stays as it is.
func TestAnswersShareNothing(t *testing.T) {
	c := byChance(157)
	for range 20 {
		u, _ := graph.Own(c.unit())
		before, e := graph.Own(u)
		if e != api.OK {
			t.Fatal(e)
		}
		all := []any{u}
		for fn, g := range u.Fns {
			for range 2 {
				l, _ := outlive.Of(u, fn)
				all = append(all, l)
				for q := range g.Points {
					l, _ := outlive.At(u, fn, q)
					all = append(all, l)
				}
			}
		}
		mustBeApart(t, all...)
		if !graph.Same(u, before) {
			t.Fatal("the unit was changed")
		}
	}
}

// Types that are handed in stay as they are.
func TestTypesAreLeft(t *testing.T) {
	a, b := typeOf("&'1 mut Box<&'2 i64>"), typeOf("&'3 mut Box<&'4 i64>")
	a.Of, b.Of = roomy(a.Of, typeOf("#7")), roomy(b.Of, typeOf("#7"))
	var all []any
	for range 3 {
		l, e := outlive.Flows(a, b)
		if e != api.OK || said(l) != "1:3 2:4 4:2" {
			t.Fatal(said(l), e)
		}
		all = append(all, l)
	}
	mustBeApart(t, append(all, a, b)...)
	if text(a) != "&'1 mut Box<&'2 i64>" || text(b) != "&'3 mut Box<&'4 i64>" || !types.Same(a.Of[:3][2], typeOf("#7")) || !types.Same(b.Of[:2][1], typeOf("#7")) {
		t.Error("the types were changed")
	}
}

// Constraints and rows that are handed in stay as they are, the room behind their ends, too.
func TestListsAreLeft(t *testing.T) {
	c := byChance(158)
	for range 100 {
		count := 1 + c.Intn(10)
		room := api.Constraint{Long: 700, Short: 800}
		l := roomy(c.constraints(count, c.Intn(12)), room)
		var rows, before []api.Row
		for _, r := range c.rows(count, 1+c.Intn(64)) {
			rows = append(rows, api.Row{Width: r.Width, Words: roomy(r.Words, 7)})
			before = append(before, r)
		}
		rows = roomy(rows, api.Row{Width: 7})
		was := slices.Clone(l)
		if _, _, _, e := outlive.Closed(l, rows); e != api.OK {
			t.Fatal(e)
		}
		x, _ := outlive.From(l, count, 0)
		y, _ := outlive.From(l, count, 0)
		mustBeApart(t, l, rows, x, y)
		if !slices.Equal(l, was) || !reflect.DeepEqual(rows, before) {
			t.Fatal("a list was changed")
		}
		for _, c := range l[len(l) : len(l)+3] {
			if c != room {
				t.Fatal("something lies behind the constraints")
			}
		}
		for _, r := range rows {
			if !slices.Equal(r.Words[1:4], []uint64{7, 7, 7}) {
				t.Fatal("something lies behind a row's end")
			}
		}
	}
}

// Nothing is kept from call to call: what is changed by whoever was answered, and what was refused, is not to be seen in the next answer.
func TestNothingIsKept(t *testing.T) {
	u := small()
	for range 3 {
		clear(mustOf(t, u, 1, "4:0 0:4 0:5 6:0 6:5"))
		l, _ := outlive.At(u, 1, 1)
		clear(l)
		mustAt(t, u, 1, 1, "0:5 6:0 6:5")
		mustAnswer(t, "no function", u, 3, 0, api.ErrArg)
		mustFlow(t, "&'1 i64", "&'2 i64", "1:2")
		mustNotFlow(t, typeOf("i64"), typeOf("bool"), api.ErrShape)
		from, _ := outlive.From(listed("1:0"), 2, 0)
		clear(from)
		mustFrom(t, listed("1:0"), 2, 0, 0, 1)
		mustNotFrom(t, listed("1:0"), 1, 0)
	}
}

// Which function is asked counts, and of the others but what is called.
func TestOthersDoNotMatter(t *testing.T) {
	u := small()
	u.Fns = append(u.Fns, graphOf(1, 0, "&'0 i64; i64", "_0 = & _1; return"))
	for range 2 {
		mustOf(t, u, 1, "4:0 0:4 0:5 6:0 6:5")
		mustOf(t, u, 3, "1:0")
		u.Fns[3] = graphOf(2, 0, "&'1 i64; i64; &i64", "_2 = & _1; _0 = & _2.*; return")
		mustOf(t, u, 3, "3:2 4:1 2:4")
		u.Fns[3] = graphOf(1, 0, "&'0 i64; i64", "_0 = & _1; return")
	}
	u.Fns[2].Outlives = nil
	mustMay(t, u)
	mustOf(t, u, 1, "4:0 0:4 0:5 6:0")
}
