package outlive_test

import (
	"fmt"
	"slices"
	"testing"

	"loanword/api"
	"loanword/outlive"
	"loanword/region"
)

// P15.2, P15.3: the chapter's examples of types, rows and regions.
func TestExamples(t *testing.T) {
	mustFlow(t, "&'1 i64", "&'2 i64", "1:2")
	mustFlow(t, "&'1 mut &'2 i64", "&'3 mut &'4 i64", "1:3 2:4 4:2")
	mustFlow(t, "Box<&'1 i64>", "Box<&'2 i64>", "1:2")
	mustNotFlow(t, typeOf("&'1 i64"), typeOf("&'2 mut i64"), api.ErrShape)
	mustClosed(t, listed("1:2"), rowsOf("000 100 010"), 0, 1, false)
	mustFrom(t, listed("1:2 3:1"), 4, 2, 1, 2, 3)
}

// P15.1: the chapter's Borrows. (A Borrow's region is above those of all locals, so the numbers are others: p's 1 and 2, To's 3, the Borrow's 4.)
func TestExampleBorrows(t *testing.T) {
	u := unitOf(graphOf(1, 0, "&'0 i64; &mut &mut i64; &mut i64", "_2 = &mut _1.*.*; return"))
	mustMay(t, u)
	mustAt(t, u, 1, 0, "4:3 2:4 1:4")
	mustOf(t, u, 1, "4:3 2:4 1:4")
	u = unitOf(graphOf(1, 0, "&'0 i64; & &i64; &i64", "_2 = & _1.*.*; return"))
	mustMay(t, u)
	mustAt(t, u, 1, 0, "4:3 2:4")
	mustOf(t, u, 1, "4:3 2:4")
}

// scene is a unit whose graph 1 has a lifetime, locals of all kinds, and these points; what it calls is beside it. Its regions: 0 the lifetime, 1 to 24 its locals', from 25 on those that points make.
func scene(points string) api.Unit {
	return unitOf(
		graphOf(1, 2, "&'0 i64; &'0 i64; &'0 &'0 #1; i64; &i64; &mut i64; & &i64; &mut &i64; & &mut i64; &mut &mut i64; "+
			"Box<&i64>; Box<& &i64>; & &mut &mut i64; &mut & &mut i64; &mut Box<&mut #1>; Box<&mut #1>; bool; Box<Box<&i64>>; &bool; #1; &#1; &mut #0", points),
		graphOf(0, 2, "i64; i64; bool", "return"),
		outlives(graphOf(3, 2, "&'2 i64; &'1 &'0 i64; &'2 i64", "return"), "0:1"),
		outlives(graphOf(2, 1, "&'1 mut &'0 i64; &'1 mut &'0 i64", "return"), "0:1"),
		outlives(graphOf(4, 0, "i64", "return"), "0:1 0:3 2:1 2:3 3:1"),
		graphOf(1, 2, "Box<&'0 i64>; Box<&'0 i64>; bool", "return"),
		graphOf(0, 0, "#0", "return"),
	)
}

// The locals of the scene, with their regions:
// _0 &'0 i64; _1 &'0 i64; _2 &'0 &'0 #1; _3 i64; _4 &'1 i64; _5 &'2 mut i64; _6 &'3 &'4 i64; _7 &'5 mut &'6 i64; _8 &'7 &'8 mut i64; _9 &'9 mut &'10 mut i64;
// _10 Box<&'11 i64>; _11 Box<&'12 &'13 i64>; _12 &'14 &'15 mut &'16 mut i64; _13 &'17 mut &'18 &'19 mut i64; _14 &'20 mut Box<&'21 mut #1>; _15 Box<&'22 mut #1>; _16 bool; _17 Box<Box<&'23 i64>>; _18 &'24 bool; _19 #1; _20 &'25 #1; _21 &'26 mut #0.
const made = 27 // the first region that a point of the scene makes

// says is what one point of the scene asks.
type says struct{ point, want string }

// P15.1: Uses: of an operand that is a place its type flows into To's, wherever both stand.
func TestUses(t *testing.T) {
	mustSay(t,
		says{"_4 = copy _1", "0:1"}, says{"_1 = copy _4", "1:0"}, says{"_4 = copy _4", "1:1"}, says{"_0 = copy _1", "0:0"},
		says{"_3 = copy _4.*", ""}, says{"_3 = 4", ""}, says{"_16 = true", ""}, says{"_16 = copy _16", ""},
		says{"_5 = move _5", "2:2"}, says{"_7 = move _7", "5:5 6:6 6:6"}, says{"_9 = move _9", "9:9 10:10 10:10"},
		says{"_6 = copy _6", "3:3 4:4"}, says{"_8 = copy _8", "7:7 8:8"}, says{"_12 = copy _12", "14:14 15:15 16:16 16:16"},
		says{"_13 = move _13", "17:17 18:18 18:18 19:19 19:19"}, says{"_14 = move _14", "20:20 21:21 21:21"},
		says{"_4 = copy _6.*", "4:1"}, says{"_7.* = copy _4", "1:6"}, says{"_4 = copy _7.*", "6:1"}, says{"_7.* = copy _6.*", "4:6"},
		says{"_10.* = copy _1", "0:11"}, says{"_4 = copy _10.*", "11:1"}, says{"_11.* = copy _6", "3:12 4:13"}, says{"_4 = copy _11.*.*", "13:1"},
		says{"_6 = copy _11.*", "12:3 13:4"}, says{"_10 = move _17.*", "23:11"}, says{"_17.*.* = copy _0", "0:23"}, says{"_15 = move _15", "22:22"},
		says{"_13.* = copy _8", "7:18 8:19"}, says{"_8 = copy _13.*", "18:7 19:8"}, says{"_9.* = move _5", "2:10"}, says{"_14.* = move _15", "22:21"},
		says{"_20 = copy _2.*", "0:25"}, says{"_2 = copy _2", "0:0 0:0"}, says{"_14.*.*.*.2 = true", ""}, says{"_14.*.*.*.1.* = move _19", ""}, says{"_3 = copy _2.*.*.0.0", ""}, says{"_16 = copy _20.*.2", ""},
	)
}

// P15.1: Boxes: likewise, into what To's box has.
func TestBoxes(t *testing.T) {
	mustSay(t,
		says{"_10 = box copy _4", "1:11"}, says{"_10 = box copy _0", "0:11"}, says{"_11 = box copy _6", "3:12 4:13"}, says{"_17 = box move _10", "11:23"}, says{"_17.* = box copy _4", "1:23"},
		says{"_17.* = box copy _10.*", "11:23"}, says{"_14.* = box move _15.*", "22:21"}, says{"_19.0.1 = box 4", ""}, says{"_19.0.1 = box copy _3", ""}, says{"_19.1 = box move _19", ""}, says{"_21.*.1 = box copy _5.*", ""},
		says{"_15 = box move _15.*", "22:22"}, says{"_10 = box copy _17.*.*", "23:11"},
	)
}

// P15.1: Borrows: what is made flows into To's type; then the references of From, from the last one to the first one, a shared one being the last that is told; boxes and fields say nothing.
func TestBorrows(t *testing.T) {
	mustSay(t,
		says{"_4 = & _3", "27:1"}, says{"_5 = &mut _3", "27:2"}, says{"_0 = & _3", "27:0"}, says{"_10.* = & _3", "27:11"}, says{"_9.* = &mut _3", "27:10"}, says{"_7.* = & _3", "27:6"},
		says{"_6 = & _4", "27:3 1:4"}, says{"_6 = & _0", "27:3 0:4"}, says{"_7 = &mut _4", "27:5 1:6 6:1"}, says{"_9 = &mut _5", "27:9 2:10 10:2"}, says{"_8 = & _5", "27:7 2:8"},
		says{"_12 = & _9", "27:14 9:15 10:16 16:10"}, says{"_13 = &mut _8", "27:17 7:18 18:7 8:19 19:8"}, says{"_14 = &mut _15", "27:20 22:21 21:22"},
		says{"_4 = & _4.*", "27:1 1:27"}, says{"_4 = & _5.*", "27:1 2:27"}, says{"_5 = &mut _5.*", "27:2 2:27"}, says{"_4 = & _1.*", "27:1 0:27"}, says{"_4 = & _0.*", "27:1 0:27"},
		says{"_4 = & _6.*.*", "27:1 4:27"}, says{"_4 = & _7.*.*", "27:1 6:27"}, says{"_4 = & _8.*.*", "27:1 8:27 7:27"}, says{"_4 = & _9.*.*", "27:1 10:27 9:27"}, says{"_5 = &mut _9.*.*", "27:2 10:27 9:27"},
		says{"_6 = & _6.*", "27:3 4:4 3:27"}, says{"_6 = & _7.*", "27:3 6:4 5:27"}, says{"_7 = &mut _7.*", "27:5 6:6 6:6 5:27"}, says{"_8 = & _9.*", "27:7 10:8 9:27"}, says{"_9 = &mut _9.*", "27:9 10:10 10:10 9:27"},
		says{"_4 = & _12.*.*.*", "27:1 16:27 15:27 14:27"}, says{"_8 = & _12.*.*", "27:7 16:8 15:27 14:27"}, says{"_12 = & _12.*", "27:14 15:15 16:16 16:16 14:27"},
		says{"_4 = & _13.*.*.*", "27:1 19:27 18:27"}, says{"_8 = & _13.*.*", "27:7 19:8 18:27"}, says{"_13 = &mut _13.*", "27:17 18:18 18:18 19:19 19:19 17:27"},
		says{"_4 = & _10.*.*", "27:1 11:27"}, says{"_6 = & _10.*", "27:3 11:4"}, says{"_4 = & _17.*.*.*", "27:1 23:27"}, says{"_6 = & _17.*.*", "27:3 23:4"}, says{"_4 = & _11.*.*.*", "27:1 13:27"},
		says{"_20 = & _14.*.*.*", "27:25 21:27 20:27"}, says{"_20 = & _14.*.*.*.1.*", "27:25 21:27 20:27"}, says{"_21 = &mut _14.*.*.*.0", "27:26 21:27 20:27"}, says{"_18 = & _14.*.*.*.2", "27:24 21:27 20:27"}, says{"_4 = & _15.*.*.0.1.*", "27:1 22:27"},
		says{"_20 = & _2.*.*", "27:25 0:27"}, says{"_20 = & _2.*.*.1.*.1.*", "27:25 0:27"}, says{"_20 = & _19", "27:25"}, says{"_20 = & _19.1.*", "27:25"}, says{"_18 = & _20.*.2", "27:24 25:27"}, says{"_5 = &mut _21.*.1.*", "27:2 26:27"}, says{"_5 = &mut _19.0.0", "27:2"},
	)
}

// P15.1: Calls: of each operand that is a place, in order, its type flows into the parameter's; then the answer's into To's; then what outlives what by the called signature. Constants say nothing; a lifetime is one region wherever it stands.
func TestCalls(t *testing.T) {
	mustSay(t,
		says{"_3 = f2(copy _3, copy _16)", ""}, says{"_3 = f2(1, true)", ""}, says{"_5.* = f2(copy _4.*, copy _18.*)", ""},
		says{"_4 = f3(copy _6, copy _1)", "3:28 4:27 0:29 29:1 27:28"}, says{"_7.* = f3(copy _11.*, copy _4)", "12:28 13:27 1:29 29:6 27:28"}, says{"_0 = f3(copy _6, copy _6.*)", "3:28 4:27 4:29 29:0 27:28"},
		says{"_7 = f4(move _7)", "5:28 6:27 27:6 28:5 27:6 6:27 27:28"},
		says{"_3 = f5()", "27:28 27:30 29:28 29:30 30:28"},
		says{"_10 = f6(move _10, true)", "11:27 27:11"}, says{"_17.* = f6(move _10, copy _20.*.2)", "11:27 27:23"},
		says{"_21.* = f7()", ""},
		says{"_0 = f1(copy _1, copy _2)", "0:27 0:27 0:27 27:0"}, says{"_4 = f1(copy _4, copy _2)", "1:27 0:27 0:27 27:1"},
	)
}

// P15.1: others have none.
func TestOthers(t *testing.T) {
	mustSay(t,
		says{"_3 = copy _3 + copy _4.*", ""}, says{"_16 = copy _3 == 4", ""}, says{"_3 = - copy _4.*", ""}, says{"_16 = ! copy _18.*", ""}, says{"_21.* = #0(copy _4.*, move _19.0.1)", ""},
		says{"_19 = #1(move _19.0, move _19.1, copy _18.*)", ""}, says{"_3 = read", ""}, says{"_5.* = read", ""}, says{"print copy _4.*", ""}, says{"drop _10", ""}, says{"drop _17.*", ""}, says{"dead _4", ""}, says{"dead _9", ""}, says{"if copy _18.*", ""}, says{"goto", ""}, says{"return", ""},
	)
}

// mustSay asks At of each of these points alone, and again with a Borrow ahead of it (whose region comes ahead of its own); and Of of the graph that has it alone.
func mustSay(t *testing.T, l ...says) {
	t.Helper()
	for _, x := range l {
		u := scene(x.point + "; return")
		mustMay(t, u)
		if r, e := region.Of(u, 1); e != api.OK || r.At[0] >= 0 && r.At[0] != made {
			t.Fatal(r.At, e)
		}
		mustAt(t, u, 1, 0, x.want)
		mustAt(t, u, 1, 1, "")
		mustOf(t, u, 1, said(once(listed(x.want))))
		later := ""
		for _, c := range listed(x.want) {
			for _, k := range []*int{&c.Long, &c.Short} {
				if *k >= made {
					*k++
				}
			}
			later += " " + said([]api.Constraint{c})
		}
		u = scene("_18 = & _16; " + x.point + "; return")
		mustMay(t, u)
		mustAt(t, u, 1, 0, "27:24")
		mustAt(t, u, 1, 1, said(listed(later)))
		mustOf(t, u, 1, said(once(append(listed("27:24"), listed(later)...))))
	}
}

// once are these without those of a region and itself, each where it stands first.
func once(l []api.Constraint) []api.Constraint {
	var kept []api.Constraint
	for i, c := range l {
		again := c.Long == c.Short
		for _, d := range l[:i] {
			again = again || c == d
		}
		if !again {
			kept = append(kept, c)
		}
	}
	return kept
}

// P15.1: a graph's constraints: point by point by number, whatever order they are gone through in, those too that nobody reaches; each where it stands first; none of a region and itself. At tells all of them.
func TestOf(t *testing.T) {
	u := unitOf(graphOf(1, 0, "&'0 i64; &i64; &i64; &i64; i64", "goto; _1 = copy _2; _2 = copy _3; _1 = copy _2; _1 = copy _1; _3 = copy _1; _2 = copy _1; _1 = & _4; return; _2 = copy _3; _0 = copy _3; return"))
	u.Fns[1].Points[0].Next = 6
	mustMay(t, u)
	mustOf(t, u, 1, "2:1 3:2 1:3 1:2 4:1 3:0")
	for q, want := range []string{"", "2:1", "3:2", "2:1", "1:1", "1:3", "1:2", "4:1", "", "3:2", "3:0", ""} {
		mustAt(t, u, 1, q, want)
	}
	mustOf(t, u, 0, "")
}

// P15.1: what both directions say behind a mutable reference may stand there already.
func TestOfBothWays(t *testing.T) {
	u := unitOf(graphOf(0, 0, "i64; &mut &i64; &mut &i64; &i64; &i64", "_3 = copy _1.*; _2.* = copy _4; _1 = move _2; _2 = move _1; return"))
	mustMay(t, u)
	mustOf(t, u, 1, "1:4 5:3 2:0 3:1 1:3 0:2")
	mustAt(t, u, 1, 3, "0:2 1:3 3:1")
}

// P15.1: two Calls, and two Borrows, have regions of their own; a graph may call itself, its lifetimes being two regions each: here, and at the Call.
func TestOwnRegions(t *testing.T) {
	f := outlives(graphOf(2, 2, "&'1 i64; &'0 &'1 i64; &'1 i64; i64", "_0 = f1(copy _1, copy _2); _0 = f1(copy _1, copy _2); _0 = & _3; _0 = & _3; return"), "1:0")
	u := unitOf(f)
	mustMay(t, u)
	mustOf(t, u, 1, "0:2 1:3 3:1 3:2 0:4 1:5 5:1 5:4 6:1 7:1")
	mustAt(t, u, 1, 0, "0:2 1:3 1:3 3:1 3:2")
	mustAt(t, u, 1, 1, "0:4 1:5 1:5 5:1 5:4")
}

// P15.1, P15.3: DOC.md's examples 6 and 7: which lifetimes must have all that the answer's has, its end too.
func TestAnswersOfPrograms(t *testing.T) {
	for text, want := range map[string][]int{
		"fn f<'a>(x: &'a i64, y: &i64) -> &'a i64 { return y; } fn main() -> i64 { return 0; }":            {0, 1},
		"fn f<'a>(x: &'a i64, y: &i64) -> &'a i64 { return x; } fn main() -> i64 { return 0; }":            {0},
		"fn f<'a, 'b: 'a>(x: &'a i64, y: &'b i64) -> &'a i64 { return y; } fn main() -> i64 { return 0; }": {0, 1},
		"fn f<'a, 'b: 'a>(x: &'a i64, y: &'b i64) -> &'a i64 { return x; } fn main() -> i64 { return 0; }": {0},
	} {
		u := lowered(t, text)
		l, e := outlive.Of(u, 0)
		if e != api.OK {
			t.Fatal(e)
		}
		from, e := outlive.From(l, regionsOf(t, u, 0).Count, 0)
		if e != api.OK {
			t.Fatal(e)
		}
		lives := slices.DeleteFunc(from, func(k int) bool { return k >= u.Fns[0].Lives })
		if !slices.Equal(lives, want) {
			t.Errorf("%s: %v; want %v", text, lives, want)
		}
	}
}

// P15.1, P15.3: through variables, boxes and calls it is still known what is lent.
func TestLoansOfPrograms(t *testing.T) {
	u := lowered(t, "fn pick<'a, 'b: 'a>(x: &'a i64, y: &'b i64) -> &'a i64 { return y; } "+
		"fn main() -> i64 { let a = 1; let b = 2; let c = 3; let r = &a; let s = &mut b; let w = box(&*s); let u = &c; let z = pick(r, *w); return *z + *u; }")
	g, r := u.Fns[1], regionsOf(t, u, 1)
	l, e := outlive.Of(u, 1)
	if e != api.OK {
		t.Fatal(e)
	}
	for name, want := range map[string]string{"z": " a0 b0 s1", "w": " b0 s1", "r": " a0", "u": " c0", "s": " b0"} {
		holder := r.Locals[slices.Index(g.Names, name)]
		if holder.Kind == api.TyBox {
			holder = holder.Of[0]
		}
		mustLend(t, g, r, l, holder.Region, want)
	}
}

// mustLend asks of which places there are Borrows whose region must have all of one region: their locals' names, and how many steps.
func mustLend(t *testing.T, g api.Graph, r api.Regions, l []api.Constraint, region int, want string) {
	t.Helper()
	from, e := outlive.From(l, r.Count, region)
	if e != api.OK {
		t.Fatal(e)
	}
	lent := ""
	for q, p := range g.Points {
		if p.Op == api.Borrow && slices.Contains(from, r.At[q]) {
			lent += fmt.Sprintf(" %s%d", g.Names[p.From.Local], len(p.From.Path))
		}
	}
	if lent != want {
		t.Errorf("lent are%s; want%s", lent, want)
	}
}
