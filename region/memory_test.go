package region_test

import (
	"reflect"
	"slices"
	"testing"

	"loanword/api"
	"loanword/graph"
	"loanword/region"
)

// ranges are the memory of all lists in a value, with what lies behind their ends.
func ranges(v reflect.Value) [][2]uintptr {
	var l [][2]uintptr
	switch v.Kind() {
	case reflect.Struct:
		for i := range v.NumField() {
			l = append(l, ranges(v.Field(i))...)
		}
	case reflect.Slice:
		if v.Cap() > 0 {
			l = append(l, [2]uintptr{v.Pointer(), v.Pointer() + uintptr(v.Cap())*v.Type().Elem().Size()})
		}
		for i := range v.Len() {
			l = append(l, ranges(v.Index(i))...)
		}
	}
	return l
}

// mustBeApart asks that no two lists of these values have memory in common.
func mustBeApart(t *testing.T, l ...any) {
	t.Helper()
	var all [][2]uintptr
	for _, v := range l {
		all = append(all, ranges(reflect.ValueOf(v))...)
	}
	slices.SortFunc(all, func(a, b [2]uintptr) int {
		switch {
		case a[0] < b[0]:
			return -1
		case a[0] > b[0]:
			return 1
		}
		return 0
	})
	for i := 1; i < len(all); i++ {
		if all[i][0] < all[i-1][1] {
			t.Fatal("two lists share memory")
		}
	}
}

// Answers share no memory with what is handed in, nor with one another; what is handed in stays as it is.
func TestAnswersShareNothing(t *testing.T) {
	c := byChance(133)
	for range 40 {
		u, _ := graph.Own(c.unit())
		before, e := graph.Own(u)
		if e != api.OK {
			t.Fatal(e)
		}
		all := []any{u}
		for fn, g := range u.Fns {
			for range 2 {
				r, _ := region.Of(u, fn)
				all = append(all, r)
				for _, p := range placesOf(u, fn, 3) {
					x, _ := region.Place(u, fn, p)
					all = append(all, p, x)
				}
				for q := range g.Points {
					x, _ := region.Borrowed(u, fn, q)
					l, y, _ := region.Called(u, fn, q)
					all = append(all, x, l, y)
				}
			}
		}
		mustBeApart(t, all...)
		if !graph.Same(u, before) {
			t.Fatal("the unit was changed")
		}
	}
}

// What is told of fields is no memory of the structs', and these stay as they are.
func TestFieldsShareNothing(t *testing.T) {
	u := unitOf(graphOf(0, 0, "i64; #0; &Box<Box<i64>>", borrow("_2", "_1.0"), goBack))
	u.Structs = []api.Struct{structOf("Box<Box<i64>>")}
	mustMay(t, u)
	x, e := region.Place(u, 1, at("_1.0"))
	mustType(t, "Place", x, e, "Box<Box<i64>>")
	y, e := region.Borrowed(u, 1, 0)
	mustType(t, "Borrowed", y, e, "&'1 Box<Box<i64>>")
	mustBeApart(t, u.Structs, u.Fns[1].Locals, x, y)
	x.Of[0].Of[0], y.Of[0].Of[0].Of[0] = api.Type{}, api.Type{}
	if s := textOf(u.Structs[0].Fields[0].Type); s != "Box<Box<i64>>" {
		t.Error(s)
	}
}

// Turn and Erase: what is handed in stays as it is, empty lists in it are not handed on.
func TestTurnedSharesNothing(t *testing.T) {
	x := typeOf("&'1 Box<&'0 mut i64>")
	x.Of[0].Of[0].Of[0].Of = make([]api.Type, 0, 4)
	regions := append(make([]int, 0, 8), 5, 6)
	var all []any
	for range 2 {
		y, e := region.Turn(x, regions)
		mustType(t, "Turn", y, e, "&'6 Box<&'5 mut i64>")
		z, e := region.Erase(x)
		mustType(t, "Erase", z, e, "&Box<&mut i64>")
		all = append(all, y, z)
	}
	mustBeApart(t, append(all, x, regions)...)
	mustType(t, "handed in", x, api.OK, "&'1 Box<&'0 mut i64>")
	if s := regions[:8]; !slices.Equal(s, []int{5, 6, 0, 0, 0, 0, 0, 0}) {
		t.Error(s)
	}
}

// Nothing is kept from call to call: what is changed by whoever was answered, and what was refused, is not to be seen in the next answer.
func TestNothingIsKept(t *testing.T) {
	u := example()
	for range 3 {
		r := mustHave(t, u, 1, 7, []int{4, 5, -1}, " &'0 i64; &'0 i64; Box<&'1 i64>; &'2 mut &'3 i64;")
		clear(r.At)
		r.Locals[2].Of[0].Region = 9
		clear(r.Locals)
		x, e := region.Place(u, 1, at("_3"))
		mustType(t, "Place", x, e, "&'2 mut &'3 i64")
		x.Of[0].Region = 7
		x, e = region.Borrowed(u, 1, 0)
		mustType(t, "Borrowed", x, e, "&'4 i64")
		x.Of[0] = api.Type{}
		mustNotBorrow(t, u, 1, 1, api.ErrOp)
		mustRefuse(t, "no function", u, 3, 0)
		_, x, e = region.Called(u, 1, 1)
		mustType(t, "Called", x, e, "&'6 i64")
		x.Of[0] = api.Type{}
	}
}
