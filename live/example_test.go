package live_test

import (
	"testing"

	"loanword/api"
)

// example is the chapter's.
func example() api.Unit {
	return unitOf("i64; i64; i64", "_1 = 5; _2 = copy _1; _1 = copy _2; print copy _1; return")
}

// P14.1 to P14.3: the chapter's examples.
func TestExamples(t *testing.T) {
	u := example()
	mustMay(t, u)
	for q, want := range [][]int{{0}, {0, 1}, {0, 2}, {0, 1}, {0}} {
		mustAt(t, u, 0, q, want...)
	}
	mustUse(t, u, 0, 2, 2)
	mustEnd(t, u, 0, 2, 1)
	mustEnd(t, u, 0, 3, -1)
	mustWhy(t, u, 0, 1, 0)
	mustWhy(t, u, 0, 1, 1, 1)
	mustWhy(t, u, 0, 1, 3, 3)
	mustWhy(t, u, 0, 0, 0, 0, 1, 2, 3, 4)
	mustClosed(t, u, 0, []api.Row{full(5), full(5), full(5)}, 0, 0, true)
	mustClosed(t, u, 0, []api.Row{rowOf(5), rowOf(5), rowOf(5)}, 0, 4, false)
	mustOf(t, u, 0, []int{0, 1, 2, 3, 4}, []int{1, 3}, []int{2})
}

// P14.1: a Call into what it is handed does not end it.
func TestExampleCall(t *testing.T) {
	u := unitOf("i64; i64", "_1 = f1(copy _1); return")
	u.Fns = append(u.Fns, graphOf(0, 1, "i64; i64", "return"))
	mustMay(t, u)
	mustEnd(t, u, 0, 0, -1)
	mustUse(t, u, 0, 0, 1)
	mustOf(t, u, 0, []int{0, 1}, []int{0})
}

// scene is a unit whose graph 0 has locals of all kinds, and these points; what its Calls call is beside it.
func scene(points string) api.Unit {
	return api.Unit{
		Structs: []api.Struct{structOf("i64", "Box<i64>"), structOf("#0", "bool")},
		Fns: []api.Graph{
			graphOf(0, 0, "i64; i64; bool; Box<i64>; &i64; &mut i64; #0; &mut #0; Box<&mut i64>; i64; Box<#0>; &#0; & &mut i64; #1", points),
			graphOf(0, 2, "i64; i64; Box<i64>", "_0 = copy _1; if true -> 2 else 5; dead _2; goto; _0 = copy _2.* -> 2; return"),
			graphOf(1, 2, "&'0 i64; &'0 i64; bool; &i64", "_3 = & _1.*; if copy _2 -> 2 else 4; _0 = copy _1 -> 6; goto; _0 = copy _3 -> 6; _2 = true; return"),
			graphOf(0, 0, "i64", "_0 = 1; return"),
		},
	}
}

// mention says what one point uses and ends.
type mention struct {
	text string
	ends int // -1: none
	uses []int
}

func uses(l ...int) []int { return l }

var mentions = []mention{
	{"_1 = 5", 1, nil}, {"_0 = 1", 0, nil}, {"_1 = copy _1", -1, uses(1)}, {"_9 = copy _1", 9, uses(1)}, {"_0 = copy _9", 0, uses(9)}, {"_9 = copy _0", 9, uses(0)}, {"_0 = copy _0", -1, uses(0)}, {"_2 = true", 2, nil},
	{"_3 = move _3", -1, uses(3)}, {"_3 = box copy _1", 3, uses(1)}, {"_3 = box 1", 3, nil}, {"_3 = box copy _3.*", -1, uses(3)}, {"_3.* = 4", -1, uses(3)}, {"_3.* = copy _1", -1, uses(1, 3)}, {"_1 = copy _3.*", 1, uses(3)},
	{"_4 = & _1", 4, uses(1)}, {"_4 = & _4.*", -1, uses(4)}, {"_4 = & _6.0", 4, uses(6)}, {"_4 = copy _4", -1, uses(4)}, {"_5 = &mut _1", 5, uses(1)}, {"_5 = &mut _5.*", -1, uses(5)}, {"_5.* = copy _4.*", -1, uses(4, 5)}, {"_5.* = 1", -1, uses(5)},
	{"_6 = #0(copy _1, move _3)", 6, uses(1, 3)}, {"_6 = #0(copy _6.0, move _3)", -1, uses(3, 6)}, {"_6 = #0(1, move _6.1)", -1, uses(6)}, {"_6.0 = 7", -1, nil}, {"_6.0 = copy _6.0", -1, uses(6)}, {"_6.1 = move _3", -1, uses(3)}, {"_6.1.* = 3", -1, uses(6)},
	{"_13.0.0 = 1", -1, nil}, {"_13.0.1.* = 1", -1, uses(13)}, {"_13 = #1(move _6, copy _2)", 13, uses(2, 6)}, {"_13 = #1(move _13.0, true)", -1, uses(13)}, {"_13.0 = #0(1, move _3)", -1, uses(3)},
	{"_7 = &mut _6", 7, uses(6)}, {"_7.*.0 = 1", -1, uses(7)}, {"_7.*.1 = move _3", -1, uses(3, 7)}, {"_7 = &mut _13.0", 7, uses(13)},
	{"_8 = box move _5", 8, uses(5)}, {"_5 = &mut _8.*.*", 5, uses(8)}, {"_8.*.* = 1", -1, uses(8)}, {"_8.* = move _5", -1, uses(5, 8)}, {"_5 = move _8.*", 5, uses(8)},
	{"_10 = box move _6", 10, uses(6)}, {"_6 = move _10.*", 6, uses(10)}, {"_10.*.0 = 3", -1, uses(10)}, {"_3 = move _10.*.1", 3, uses(10)},
	{"_11 = & _6", 11, uses(6)}, {"_11 = & _7.*", 11, uses(7)}, {"_1 = copy _11.*.0", 1, uses(11)}, {"_12 = & _5", 12, uses(5)}, {"_4 = & _12.*.*", 4, uses(12)},
	{"_2 = copy _1 < copy _9", 2, uses(1, 9)}, {"_9 = copy _9 + copy _1", -1, uses(1, 9)}, {"_9 = copy _1 + copy _9", -1, uses(1, 9)}, {"_9 = copy _1 * copy _1", 9, uses(1)}, {"_2 = 1 == 2", 2, nil}, {"_2 = ! copy _2", -1, uses(2)}, {"_1 = - copy _9", 1, uses(9)}, {"_3.* = - copy _3.*", -1, uses(3)},
	{"_1 = f1(copy _1, move _3)", -1, uses(1, 3)}, {"_9 = f1(3, move _3)", 9, uses(3)}, {"_4 = f2(copy _4, copy _2)", -1, uses(2, 4)}, {"_5.* = f1(1, move _6.1)", -1, uses(5, 6)}, {"_6.0 = f1(1, move _3)", -1, uses(3)}, {"_0 = f3()", 0, nil},
	{"_1 = read", 1, nil}, {"_3.* = read", -1, uses(3)}, {"_6.0 = read", -1, nil}, {"print copy _1", -1, uses(1)}, {"print 4", -1, nil}, {"print copy _4.*", -1, uses(4)},
	{"drop _3", -1, nil}, {"drop _6", -1, nil}, {"drop _6.1", -1, nil}, {"drop _10.*", -1, nil}, {"dead _1", 1, nil}, {"dead _3", 3, nil}, {"dead _4", 4, nil}, {"dead _6", 6, nil}, {"dead _13", 13, nil},
	{"goto", -1, nil}, {"if copy _2", -1, uses(2)}, {"if true", -1, nil}, {"return", -1, uses(0)},
}

// P14.1: what each Op uses and ends.
func TestMentions(t *testing.T) {
	ops := map[api.PointOp]bool{}
	for _, m := range mentions {
		u := scene(m.text + "; return")
		mustMay(t, u)
		mustUse(t, u, 0, 0, m.uses...)
		mustEnd(t, u, 0, 0, m.ends)
		ops[u.Fns[0].Points[0].Op] = true
	}
	if len(ops) != 14 {
		t.Errorf("%d Ops", len(ops))
	}
}

// P14.1: at a point that does not end a local it is as it is behind it; at one that uses it, it is live; at one that ends it, it is not.
func TestMentionsAndLive(t *testing.T) {
	for _, m := range mentions {
		for local := range 14 {
			use := []string{"_9 = copy _0", "_9 = copy _1", "if copy _2", "_9 = copy _3.*", "_9 = copy _4.*", "_9 = copy _5.*", "_9 = copy _6.0", "_9 = copy _7.*.0", "_9 = copy _8.*.*", "_1 = copy _9", "_9 = copy _10.*.0", "_9 = copy _11.*.0", "_9 = copy _12.*.*", "_9 = copy _13.0.0"}[local]
			u := scene(m.text + "; " + use + "; goto -> 2")
			used := false
			for _, x := range m.uses {
				used = used || x == local
			}
			var want []int
			switch {
			case used:
				want = []int{0}
			case m.ends != local && m.text != "return":
				want = []int{0, 1}
			}
			mustWhy(t, u, 0, local, 0, want...)
			mustWhy(t, u, 0, local, 1, 1)
			mustWhy(t, u, 0, local, 2)
		}
	}
}

// P14.1, P14.2: round a loop: what is assigned in it is live only from there to its use; what is used ahead of that, all round.
func TestLoops(t *testing.T) {
	u := unitOf("i64; i64; i64; bool", "_1 = 0; _2 = copy _1; _3 = copy _2 < 3; if copy _3 -> 4 else 6; _1 = copy _1 + 1; goto -> 1; _0 = 7; return")
	mustMay(t, u)
	mustOf(t, u, 0, []int{7}, []int{1, 2, 3, 4, 5}, []int{2}, []int{3})
	mustWhy(t, u, 0, 1, 3, 3, 4)
	mustWhy(t, u, 0, 1, 5, 5, 1)
	mustWhy(t, u, 0, 1, 0)
	mustWhy(t, u, 0, 0, 3)
	mustWhy(t, u, 0, 2, 3)
}

// P14.1: without an end nothing that is to be answered is used.
func TestForEver(t *testing.T) {
	u := unitOf("i64; i64", "print copy _1; goto -> 0; return")
	mustMay(t, u)
	mustOf(t, u, 0, []int{2}, []int{0, 1})
}

// P14.2: of equally short ways the first one by number is told, whichever successor is Next, and to whichever use; a shorter one ahead of all.
func TestWhy(t *testing.T) {
	u := unitOf("i64; i64", "if true -> 2 else 1; if true -> 5 else 4; if true -> 3 else 6; print copy _1; goto -> 6; goto -> 7; print copy _1; print copy _1; return")
	mustMay(t, u)
	mustWhy(t, u, 0, 1, 0, 0, 2, 3)
	mustWhy(t, u, 0, 1, 1, 1, 4, 6)
	mustWhy(t, u, 0, 1, 8)
	u.Fns[0].Points[4] = pointOf("_1 = 1 -> 6", 4)
	mustWhy(t, u, 0, 1, 1, 1, 5, 7)
	mustWhy(t, u, 0, 1, 4)
	u.Fns[0].Points[2] = pointOf("dead _1", 2)
	mustWhy(t, u, 0, 1, 0, 0, 1, 5, 7)
	u.Fns[0].Points[5] = pointOf("dead _1 -> 7", 5)
	mustWhy(t, u, 0, 1, 0)
	u.Fns[0].Points[5] = pointOf("_1 = copy _1 -> 7", 5)
	mustWhy(t, u, 0, 1, 0, 0, 1, 5)
}

// P14.2: the way with the smaller numbers first is told, though the point at its end has a greater one.
func TestWhyGoesPointByPoint(t *testing.T) {
	u := unitOf("i64; i64", "if true -> 2 else 1; goto -> 4; goto; print copy _1; print copy _1; return")
	mustMay(t, u)
	mustWhy(t, u, 0, 1, 0, 0, 1, 4)
	mustWhy(t, u, 0, 1, 2, 2, 3)
}

// P14.2: a shorter way to the same use, on which the local ends, is none.
func TestWhyGoesAround(t *testing.T) {
	u := unitOf("i64; i64", "if true -> 1 else 2; _1 = 4 -> 4; goto; goto; print copy _1 -> 0")
	mustMay(t, u)
	mustWhy(t, u, 0, 1, 0, 0, 2, 3, 4)
	mustWhy(t, u, 0, 1, 1)
	u.Fns[0].Points[1] = pointOf("dead _1 -> 4", 1)
	mustWhy(t, u, 0, 1, 0, 0, 2, 3, 4)
	u.Fns[0].Points[1] = pointOf("dead _1 -> 1", 1)
	mustWhy(t, u, 0, 1, 0, 0, 2, 3, 4)
}

// P14.3: the first local, and its first point; local by local ahead of point by point.
func TestClosed(t *testing.T) {
	u := example()
	rows := func(l ...[]int) []api.Row {
		var rows []api.Row
		for _, points := range l {
			rows = append(rows, rowOf(5, points...))
		}
		return rows
	}
	mustClosed(t, u, 0, rows(uses(0, 1, 2, 3, 4), uses(1, 3), uses(2)), 0, 0, true)
	mustClosed(t, u, 0, rows(uses(0, 1, 2, 3, 4), uses(1, 3), nil), 2, 2, false)
	mustClosed(t, u, 0, rows(uses(0, 1, 2, 3, 4), uses(3), nil), 1, 1, false)
	mustClosed(t, u, 0, rows(uses(0, 1, 2, 3, 4), uses(1), nil), 1, 3, false)
	mustClosed(t, u, 0, rows(uses(1, 2, 3, 4), nil, nil), 0, 0, false)
	mustClosed(t, u, 0, rows(uses(1, 2, 4), nil, nil), 0, 0, false)
	mustClosed(t, u, 0, rows(uses(0, 2, 4), nil, nil), 0, 1, false)
	mustClosed(t, u, 0, rows(uses(4), uses(1, 3), uses(2)), 0, 3, false)
	mustClosed(t, u, 0, rows(uses(0, 1, 2, 3, 4), uses(0, 1, 3), uses(2)), 0, 0, true)
	mustClosed(t, u, 0, rows(uses(0, 1, 2, 3, 4), uses(1, 2, 3), uses(2)), 0, 0, true)
	mustClosed(t, u, 0, rows(uses(0, 1, 2, 3, 4), uses(1, 3, 4), uses(2)), 0, 0, true)
	mustClosed(t, u, 0, rows(uses(0, 1, 2, 3, 4), uses(1, 3), uses(2, 3)), 0, 0, true)
	mustClosed(t, u, 0, rows(uses(0, 1, 2, 3, 4), uses(1, 3), uses(2, 4)), 2, 3, false)
}

// P14.3: a row may have points round which one goes for ever: it is closed, though not the least.
func TestClosedRound(t *testing.T) {
	u := unitOf("i64; i64", "return; goto; goto -> 1")
	mustMay(t, u)
	mustOf(t, u, 0, []int{0}, nil)
	mustClosed(t, u, 0, []api.Row{rowOf(3, 0), rowOf(3, 1, 2)}, 0, 0, true)
	mustClosed(t, u, 0, []api.Row{rowOf(3, 0, 1, 2), rowOf(3)}, 0, 0, true)
	mustClosed(t, u, 0, []api.Row{rowOf(3, 0), rowOf(3, 2)}, 1, 1, false)
	mustClosed(t, u, 0, []api.Row{rowOf(3, 0), rowOf(3, 1)}, 1, 2, false)
	mustClosed(t, u, 0, []api.Row{rowOf(3, 0), rowOf(3, 0)}, 0, 0, true)
}
