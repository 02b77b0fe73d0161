package live_test

import (
	"reflect"
	"slices"
	"testing"

	"loanword/api"
	"loanword/graph"
	"loanword/live"
)

// ranges are the memory of all lists in a value, with what lies behind their ends.
func ranges(v reflect.Value) [][2]uintptr {
	var l [][2]uintptr
	switch v.Kind() {
	case reflect.Struct:
		for i := range v.NumField() {
			l = append(l, ranges(v.Field(i))...)
		}
	case reflect.Slice:
		if v.Cap() > 0 {
			l = append(l, [2]uintptr{v.Pointer(), v.Pointer() + uintptr(v.Cap())*v.Type().Elem().Size()})
		}
		for i := range v.Len() {
			l = append(l, ranges(v.Index(i))...)
		}
	}
	return l
}

// mustBeApart asks that no two lists of these values have memory in common.
func mustBeApart(t *testing.T, l ...any) {
	t.Helper()
	var all [][2]uintptr
	for _, v := range l {
		all = append(all, ranges(reflect.ValueOf(v))...)
	}
	for i, a := range all {
		for _, b := range all[:i] {
			if a[0] < b[1] && b[0] < a[1] {
				t.Fatal("two lists share memory")
			}
		}
	}
}

// roomy is a list in memory of its own, with room behind its end into which nobody may lay anything.
func roomy[T any](l []T, room T) []T {
	long := append(slices.Clone(l), room, room, room)
	return long[:len(l):len(long)]
}

// Answers share no memory with what is handed in, nor with one another; what is handed in stays as it is.
func TestAnswersShareNothing(t *testing.T) {
	c := byChance(153)
	for range 25 {
		made := c.unit(2 + c.Intn(10))
		u, e := graph.Own(made)
		if e != api.OK {
			t.Fatal(e)
		}
		before, _ := graph.Own(u)
		all := []any{u}
		for range 2 {
			rows := rowsOf(t, u, 0)
			all = append(all, rows)
			for q := range u.Fns[0].Points {
				l, _ := live.Uses(u, 0, q)
				m, _ := live.At(u, 0, q)
				way, _, _ := live.Why(u, 0, c.Intn(14), q)
				all = append(all, l, m, way)
			}
		}
		mustBeApart(t, all...)
		if !reflect.DeepEqual(u, before) {
			t.Fatalf("%+v, then %+v", before, u)
		}
	}
}

// The rows that are handed in stay as they are, the room behind their ends, too.
func TestRowsAreLeft(t *testing.T) {
	c := byChance(154)
	for range 60 {
		u := c.unit(2 + c.Intn(100))
		var rows, before []api.Row
		for _, r := range c.rows(14, len(u.Fns[0].Points)) {
			rows = append(rows, api.Row{Width: r.Width, Words: roomy(r.Words, 7)})
			before = append(before, r)
		}
		rows = roomy(rows, api.Row{Width: 7})
		live.Closed(u, 0, rows)
		if !reflect.DeepEqual(rows, before) {
			t.Fatalf("%v, then %v", before, rows)
		}
		for _, r := range rows {
			if !slices.Equal(r.Words[len(r.Words):len(r.Words)+3], []uint64{7, 7, 7}) {
				t.Fatal("something lies behind a row's end")
			}
		}
		if r := rows[:15][14]; r.Width != 7 || len(r.Words) != 0 {
			t.Fatal("something lies behind the rows")
		}
	}
}

// Operands' lists with room behind their ends stay as they are.
func TestOperandsAreLeft(t *testing.T) {
	u := scene("_1 = f1(copy _1, move _3); return")
	p := &u.Fns[0].Points[0]
	p.Args = roomy(p.Args, operandOf("7"))
	for range 2 {
		mustUse(t, u, 0, 0, 1, 3)
		mustEnd(t, u, 0, 0, -1)
		mustAt(t, u, 0, 1, 0)
		rowsOf(t, u, 0)
	}
	for _, o := range p.Args[2:5] {
		if o.Kind != api.ConstInt || o.N != 7 {
			t.Fatal("something lies behind the operands")
		}
	}
}

// Nothing is kept from call to call: what is changed by whoever was answered, and what was refused, is not to be seen in the next answer.
func TestNothingIsKept(t *testing.T) {
	u := example()
	for range 3 {
		for _, r := range mustOf(t, u, 0, []int{0, 1, 2, 3, 4}, []int{1, 3}, []int{2}) {
			clear(r.Words)
		}
		mustUse(t, u, 0, 2, 2)
		l, _ := live.Uses(u, 0, 2)
		clear(l)
		mustAt(t, u, 0, 2, 0, 2)
		l, _ = live.At(u, 0, 2)
		clear(l)
		mustWhy(t, u, 0, 0, 1, 1, 2, 3, 4)
		l, _, _ = live.Why(u, 0, 0, 1)
		clear(l)
		mustRefuse(t, "no function", u, 1)
		mustRefusePoint(t, "no point", u, 0, 5)
		mustNotClose(t, "no rows", u, 0, nil)
	}
}

// Which function is asked, and how others of the unit go, counts for nothing but that one's answers.
func TestOthersDoNotMatter(t *testing.T) {
	c := byChance(155)
	for range 20 {
		u, x := c.unit(1+c.Intn(10)), c.unit(1+c.Intn(10))
		for fn := 1; fn < 4; fn++ {
			mustOf(t, u, fn, listsOf(rowsOf(t, x, fn))...)
		}
		alone := rowsOf(t, u, 0)
		u.Fns[1].Points = u.Fns[1].Points[5:]
		mustOf(t, u, 0, listsOf(alone)...)
	}
}
