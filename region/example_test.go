package region_test

import (
	"fmt"
	"testing"

	"loanword/api"
	"loanword/region"
)

// example is the chapter's: its graph is 1.
func example() api.Unit {
	f := graphOf(1, 1, "&'0 i64; &'0 i64; Box<&i64>; &mut &i64", borrow("_0", "_1.*"), call("_0", 2), goBack)
	return unitOf(f, graphOf(2, 0, "&'1 i64", goBack))
}

// P13.1, P13.2, P13.3: the chapter's examples.
func TestExamples(t *testing.T) {
	u := example()
	r := mustHave(t, u, 1, 7, []int{4, 5, -1}, " &'0 i64; &'0 i64; Box<&'1 i64>; &'2 mut &'3 i64;")
	if n := region.Width(r); n != 4 {
		t.Errorf("Width: %d", n)
	}
	mustNotBorrow(t, u, 1, 1, api.ErrOp)
	x, e := region.Turn(typeOf("&'1 &'0 i64"), []int{7, 9})
	mustType(t, "Turn", x, e, "&'9 &'7 i64")
}

// P13.2: what else the example's points make.
func TestExampleMakes(t *testing.T) {
	u := example()
	x, e := region.Borrowed(u, 1, 0)
	mustType(t, "Borrowed", x, e, "&'4 i64")
	l, x, e := region.Called(u, 1, 1)
	mustType(t, "Called", x, e, "&'6 i64")
	if len(l) != 0 {
		t.Errorf("Called:%s", textsOf(l))
	}
	for _, q := range []int{0, 2} {
		mustNotCall(t, u, 1, q, api.ErrOp)
	}
	mustNotBorrow(t, u, 1, 2, api.ErrOp)
}

// P13.1: places of the example.
func TestExamplePlaces(t *testing.T) {
	for s, want := range map[string]string{
		"_0": "&'0 i64", "_1.*": "i64", "_2": "Box<&'1 i64>", "_2.*": "&'1 i64", "_2.*.*": "i64", "_3": "&'2 mut &'3 i64", "_3.*": "&'3 i64", "_3.*.*": "i64",
	} {
		x, e := region.Place(example(), 1, at(s))
		mustType(t, s, x, e, want)
	}
}

// P13.1: the main of a program without references has no regions, its rows are as wide as it has points.
func TestNoRegions(t *testing.T) {
	u := unitOf()
	r := mustHave(t, u, 0, 0, []int{-1}, " i64;")
	if n := region.Width(r); n != 1 {
		t.Errorf("Width: %d", n)
	}
}

// P13.1: lifetimes that no local has are regions, too.
func TestLifetimesAlone(t *testing.T) {
	u := unitOf(graphOf(8, 0, "bool", goBack))
	r := mustHave(t, u, 1, 8, []int{-1}, " bool;")
	if n := region.Width(r); n != 9 {
		t.Errorf("Width: %d", n)
	}
}

// P13.1: a reference with a lifetime keeps it, wherever it stands, and those around it are numbered.
func TestLifetimesAreKept(t *testing.T) {
	u := unitOf(graphOf(3, 0, "i64; & &'2 mut &i64; &'1 i64; Box<&'0 Box<&mut #0>>; &'2 &'2 &'2 bool; & & &bool", goBack))
	u.Structs = structs
	mustHave(t, u, 1, 9, []int{-1}, " i64; &'3 &'2 mut &'4 i64; &'1 i64; Box<&'0 Box<&'5 mut #0>>; &'2 &'2 &'2 bool; &'6 &'7 &'8 bool;")
}

// P13.1: points are numbered behind all locals, those too that nobody reaches; a Call of what has no lifetimes makes none.
func TestPointsAreBehindLocals(t *testing.T) {
	f := graphOf(0, 0, "i64; &i64; &mut i64", goOn, goBack, borrow("_1", "_0"), call("_0", 0), borrowMut("_2", "_0"), call("_0", 2), call("_0", 1), borrow("_1", "_2.*"), goOn)
	mustHave(t, unitOf(f, graphOf(3, 0, "i64", goBack)), 1, 8, []int{-1, -1, 2, -1, 3, 4, -1, 7, -1}, " i64; &'0 i64; &'1 mut i64;")
}

// P13.2: what is borrowed: through boxes, references, fields; a type that has regions of its own keeps them.
func TestBorrows(t *testing.T) {
	f := graphOf(1, 1, "i64; &'0 &'0 #1; &Box<#1>; &mut &mut &mut i64; & &mut &mut i64; &mut &mut i64; & & &'0 #1; & &'0 #1; &#1; &bool; Box<& &'0 #1>; &Box<& &#1>")
	u := unitOf(f)
	u.Structs = structs
	for _, x := range []struct {
		point api.Point
		want  string
	}{
		{borrow("_6", "_7"), "&'19 &'12 &'0 #1"},
		{borrow("_6", "_10.*"), "&'19 &'15 &'0 #1"},
		{borrow("_6", "_1"), "&'19 &'0 &'0 #1"},
		{borrow("_7", "_1.*"), "&'19 &'0 #1"},
		{borrow("_7", "_6.*.*"), "&'19 &'0 #1"},
		{borrow("_7", "_7"), ""},
		{borrow("_8", "_1.*.*"), "&'19 #1"},
		{borrow("_8", "_1.*.*.1.*"), "&'19 #1"},
		{borrow("_9", "_1.*.*.2"), "&'19 bool"},
		{borrow("_2", "_1.*.*.1"), "&'19 Box<#1>"},
		{borrow("_11", "_10"), "&'19 Box<&'15 &'0 #1>"},
		{borrowMut("_5", "_3.*.*"), "&'19 mut &'4 mut i64"},
		{borrowMut("_3", "_3.*"), "&'19 mut &'3 mut &'4 mut i64"},
		{borrow("_4", "_3.*"), "&'19 &'3 mut &'4 mut i64"},
		{borrow("_4", "_5"), "&'19 &'8 mut &'9 mut i64"},
	} {
		u.Fns[1].Points = []api.Point{x.point, goBack}
		u.Fns[1].Points[0].Next = 1
		if x.want == "" {
			mustNotBorrow(t, u, 1, 0, api.ErrArg)
			continue
		}
		mustHave(t, u, 1, 20, []int{19, -1}, " i64; &'0 &'0 #1; &'1 Box<#1>; &'2 mut &'3 mut &'4 mut i64; &'5 &'6 mut &'7 mut i64; &'8 mut &'9 mut i64; &'10 &'11 &'0 #1; &'12 &'0 #1; &'13 #1; &'14 bool; Box<&'15 &'0 #1>; &'16 Box<&'17 &'18 #1>;")
		got, e := region.Borrowed(u, 1, 0)
		mustType(t, "Borrowed", got, e, x.want)
	}
}

// P13.2: what is called: each lifetime is that of the Call, as often as it stands there; two Calls of one graph have nothing in common.
func TestCalls(t *testing.T) {
	g := graphOf(3, 3, "&'2 Box<&'2 i64>; &'1 i64; #1; Box<&'0 mut &'0 bool>; &'1 &i64", goBack)
	f := graphOf(1, 2, "&'0 Box<&'0 i64>; &'0 i64; #1; Box<&'0 mut &'0 bool>; &Box<&i64>", goOn, goOn, goBack)
	f.Points[0] = call("_0", 2, "_1", "_2", "_3")
	f.Points[1] = call("_4", 2, "_1", "_2", "_3")
	for q := range 2 {
		f.Points[q].Next = q + 1
		f.Points[q].Args[1].Kind, f.Points[q].Args[2].Kind = api.Move, api.Move
	}
	u := unitOf(f, g)
	u.Structs = structs
	mustHave(t, u, 1, 9, []int{3, 6, -1}, " &'0 Box<&'0 i64>; &'0 i64; #1; Box<&'0 mut &'0 bool>; &'1 Box<&'2 i64>;")
	for q, want := range []string{" &'4 i64; #1; Box<&'3 mut &'3 bool>; &'5 Box<&'5 i64>;", " &'7 i64; #1; Box<&'6 mut &'6 bool>; &'8 Box<&'8 i64>;"} {
		l, x, e := region.Called(u, 1, q)
		if s := textsOf(append(l, x)); e != api.OK || s != want {
			t.Errorf("Called at %d:%s %v; want%s", q, s, e, want)
		}
	}
	mustNotCall(t, u, 1, 2, api.ErrOp)
}

// P13.2: what is called may be the graph itself, whose lifetimes are then two regions each: here, and at the Call.
func TestCallsItself(t *testing.T) {
	u := unitOf(graphOf(2, 2, "&'1 i64; &'0 i64; &'1 i64", call("_0", 1, "_1", "_2"), goBack))
	mustHave(t, u, 1, 4, []int{2, -1}, " &'1 i64; &'0 i64; &'1 i64;")
	l, x, e := region.Called(u, 1, 0)
	if s := textsOf(append(l, x)); e != api.OK || s != " &'2 i64; &'3 i64; &'3 i64;" {
		t.Errorf("Called:%s %v", s, e)
	}
}

// P13.2: a Call of what has no lifetimes makes no region, and tells its types.
func TestCallsWithoutLifetimes(t *testing.T) {
	u := unitOf(graphOf(0, 2, "bool; i64; Box<i64>", goBack), graphOf(0, 1, "bool; Box<i64>", call("_0", 1, "_1.*", "_1"), goBack))
	u.Fns[2].Points[0].Args[1].Kind = api.Move
	mustHave(t, u, 2, 0, []int{-1, -1}, " bool; Box<i64>;")
	l, x, e := region.Called(u, 2, 0)
	if s := textsOf(append(l, x)); e != api.OK || s != " i64; Box<i64>; bool;" {
		t.Errorf("Called:%s %v", s, e)
	}
}

// P13.1: Width is asked of any regions: it looks at two of their numbers alone.
func TestWidth(t *testing.T) {
	for _, x := range []struct {
		r    api.Regions
		want int
	}{
		{api.Regions{}, 0}, {api.Regions{Lives: 8, Points: 1024}, 1032}, {api.Regions{Lives: 3}, 3}, {api.Regions{Points: 5, Count: 7, Locals: []api.Type{{}}, At: []int{1}}, 5}, {api.Regions{Lives: -1, Points: 1}, 0},
	} {
		if n := region.Width(x.r); n != x.want {
			t.Errorf("%+v: %d, want %d", x.r, n, x.want)
		}
	}
}

// P13.1 to P13.3, of a program's graphs: variables' references are without a region till here, signatures' have theirs.
func TestProgram(t *testing.T) {
	u := lowered(t, "fn main() -> i64 { let x = 1; let y = 2; let r = g(&x, &mut y); return *r; } fn g<'a>(x: &'a i64, y: &mut i64) -> &'a i64 { *y = 3; return x; }")
	mustHave(t, u, 1, 3, []int{-1, -1, -1, -1, -1}, " &'0 i64; &'0 i64; &'1 mut i64; &'2 i64;")
	r, e := region.Of(u, 0)
	if e != api.OK || r.Lives != 0 {
		t.Fatalf("%+v, %v", r, e)
	}
	var borrowed, called []string
	for q, p := range u.Fns[0].Points {
		switch p.Op {
		case api.Borrow:
			x, _ := region.Borrowed(u, 0, q)
			borrowed = append(borrowed, textOf(x))
		case api.Call:
			l, x, _ := region.Called(u, 0, q)
			called = append(called, textsOf(append(l, x)))
		}
	}
	if s := fmt.Sprint(borrowed, called); s != "[&'4 i64 &'5 mut i64] [ &'6 i64; &'7 mut i64; &'6 i64;]" {
		t.Errorf("%s, %s", s, textsOf(r.Locals))
	}
}
