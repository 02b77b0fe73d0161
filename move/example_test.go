package move_test

import (
	"slices"
	"testing"

	"loanword/api"
	"loanword/move"
)

// example is the chapter's, with a local more, and a point that calls something with the same value twice.
func example() api.Unit {
	g := graphOf(1, 2, "i64; #0; &'0 mut #0; Box<i64>; i64", "_3 = move _1.0; _4 = copy _2.*.1; _1.0 = move _3; return")
	h := graphOf(1, 2, "i64; #0; &'0 mut #0; Box<i64>; i64; i64", "_3 = move _1.0; _4 = copy _2.*.1; _1.0 = move _3; return; _5 = f3(move _3, move _3); return")
	return api.Unit{Structs: []api.Struct{structOf("Box<i64>", "i64")}, Fns: []api.Graph{graphOf(0, 0, "i64", "return"), g, h, graphOf(0, 2, "i64; Box<i64>; Box<i64>", "return")}}
}

// P17.1 to P17.3: the chapter's examples.
func TestExamples(t *testing.T) {
	u := example()
	mustMay(t, u)
	mustPaths(t, u, 1, "_0 _1 _1.0 _2 _3 _4")
	mustBelow(t, u, 1, 1, 1, 2)
	mustUse(t, u, 1, 0, 1, 2)
	mustDo(t, u, 1, 0, []int{2}, []int{4})
	mustUse(t, u, 1, 1, 3)
	mustUse(t, u, 1, 2, 1, 4)
	mustDo(t, u, 1, 2, []int{4}, []int{2})
	mustBehind(t, u, 1, 0, []int{4, 5}, 2, 5)
	mustAgain(t, u, 2, 4, 4)
	mustStart(t, u, 1, 0, 4, 5)
	mustPath(t, u, 1, placeOf("_2.*.0.*"), 3)
	mustPath(t, u, 1, placeOf("_1.0"), 2)
	for q := range 4 {
		mustAgain(t, u, 1, q, -1)
	}
}

// The structs are #0 {i64, Box<i64>}, #1 {#0, Box<#1>, bool}, #2 {i64, bool}, #3 {#2, i64}.
const (
	locals = "&'0 i64; &'0 i64; &'1 mut #1; i64; bool; Box<i64>; &i64; &mut i64; #0; &mut #0; &#0; Box<#0>; Box<&mut i64>; & &mut i64; &mut &mut i64; Box<Box<i64>>; " +
		"#1; &mut Box<#1>; &mut &#1; &Box<i64>; Box<&#0>; #2; &mut #2; Box<Box<&mut Box<i64>>>; &bool; &mut Box<i64>; i64; #3; &mut #3; &#1; Box<#2>"
	lives = 2 // lifetimes of the scene
	// what stands behind a scene's points, so that there are many paths; nobody comes there
	behind = "; print copy _5.*; print copy _8.0; print copy _8.1.*; print copy _11.*.1.*; _7 = move _12.*; print copy _15.*.*; print copy _16.0.0; print copy _16.0.1.*; print copy _16.1.*.0.1.*; " +
		"if copy _16.1.*.1.*.2; if copy _16.2; _10 = copy _20.*; print copy _21.0; _25 = move _23.*.*; if copy _27.0.1; print copy _30.*.0; return"
)

// scene is a unit whose graph 1 has locals of all kinds, and these points; what its Calls call is beside it.
func scene(points string) api.Unit {
	g := outlives(graphOf(lives, 2, locals, points), "1:0")
	return unitOf(g,
		graphOf(0, 2, "i64; i64; Box<i64>", "_0 = copy _2.*; return"),
		graphOf(1, 2, "&'0 i64; &'0 i64; bool", "return"),
		graphOf(0, 0, "#0", "return"),
		outlives(graphOf(2, 2, "&'0 mut #0; &'0 mut #0; &'1 i64", "return"), "1:0"),
		graphOf(0, 1, "Box<i64>; #2", "return"),
		graphOf(0, 2, "i64; Box<i64>; Box<i64>", "return"),
		graphOf(0, 4, "i64; #0; Box<i64>; i64; i64", "return"),
		graphOf(0, 3, "i64; #0; #1; Box<#1>", "return"),
		graphOf(0, 3, "i64; Box<#1>; bool; #1", "return"),
		graphOf(1, 2, "#0; &'0 mut #0; i64", "return"),
		graphOf(0, 2, "i64; Box<Box<i64>>; Box<i64>", "return"),
	)
}

// mention says what one point uses, what it takes the value of, what it gives one: paths, and behind some of them a + for all that is below.
type mention struct{ text, uses, gone, has string }

var mentions = []mention{
	// of locals
	{"_3 = 5", "", "", "_3+"}, {"_3 = copy _26", "_26+", "", "_3+"}, {"_3 = copy _3", "_3+", "", "_3+"}, {"_4 = true", "", "", "_4+"}, {"_0 = copy _1", "_1+", "", "_0+"}, {"_5 = move _5", "_5+", "", "_5+"}, {"_7 = move _7", "_7+", "", "_7+"},
	{"_6 = copy _6", "_6+", "", "_6+"}, {"_13 = copy _13", "_13+", "", "_13+"}, {"_27 = move _27", "_27+", "", "_27+"}, {"_16 = move _16", "_16+", "", "_16+"}, {"_15 = move _15", "_15+", "", "_15+"},
	// into and out of fields and boxes
	{"_5.* = 4", "_5", "", "_5.*+"}, {"_3 = copy _5.*", "_5 _5.*+", "", "_3+"}, {"_5 = move _8.1", "_8 _8.1+", "_8.1+", "_5+"}, {"_7 = move _12.*", "_12 _12.*+", "_12.*+", "_7+"}, {"_8 = move _11.*", "_11 _11.*+", "_11.*+", "_8+"}, {"_8.0 = 7", "_8", "", "_8.0+"},
	{"_8.1 = move _5", "_5+ _8", "_5+", "_8.1+"}, {"_8.1.* = 3", "_8 _8.1", "", "_8.1.*+"}, {"_10 = copy _20.*", "_20 _20.*+", "", "_10+"}, {"_21 = move _30.*", "_30 _30.*+", "_30.*+", "_21+"}, {"_27.0 = move _21", "_21+ _27", "_21+", "_27.0+"}, {"_16.0 = move _8", "_8+ _16", "_8+", "_16.0+"},
	{"_16.1.*.1.*.2 = false", "_16 _16.1 _16.1.* _16.1.*.1 _16.1.*.1.*", "", "_16.1.*.1.*.2+"}, {"_15.* = move _5", "_5+ _15", "_5+", "_15.*+"}, {"_23.*.* = move _25", "_25+ _23 _23.*", "_25+", "_23.*.*+"}, {"_16.1.* = move _16.1.*.1.*", "_16 _16.1 _16.1.* _16.1.*.1 _16.1.*.1.*+", "", "_16.1.*+"}, {"_16.1.*.0 = move _16.0", "_16 _16.0+ _16.1 _16.1.*", "_16.0+", "_16.1.*.0+"},
	// by way of references
	{"_7.* = copy _6.*", "_6 _7", "", ""}, {"_14.* = move _7", "_7+ _14", "_7+", ""}, {"_14.*.* = 1", "_14", "", ""}, {"_3 = copy _13.*.*", "_13", "", "_3+"}, {"_9.*.1 = move _5", "_5+ _9", "_5+", ""}, {"_9.* = move _8", "_8+ _9", "_8+", ""}, {"_9.*.0 = copy _10.*.0", "_9 _10", "", ""},
	{"_25.* = move _5", "_5+ _25", "_5+", ""}, {"_22.* = move _21", "_21+ _22", "_21+", ""}, {"_28.*.0.1 = copy _4", "_4+ _28", "", ""}, {"_2.*.1.*.0.1 = move _5", "_2 _5+", "_5+", ""}, {"_17.*.*.2 = true", "_17", "", ""}, {"_18.* = copy _29", "_18 _29+", "", ""}, {"_23.*.*.* = move _5", "_5+ _23 _23.* _23.*.*", "_5+", ""}, {"_3 = copy _20.*.*.0", "_20 _20.*", "", "_3+"},
	// boxes
	{"_5 = box copy _3", "_3+", "", "_5+"}, {"_5 = box 1", "", "", "_5+"}, {"_5 = box copy _5.*", "_5 _5.*+", "", "_5+"}, {"_11 = box move _8", "_8+", "_8+", "_11+"}, {"_8.1 = box 5", "_8", "", "_8.1+"}, {"_12 = box move _7", "_7+", "_7+", "_12+"}, {"_25.* = box 9", "_25", "", ""}, {"_30 = box move _21", "_21+", "_21+", "_30+"},
	{"_16.1 = box move _16", "_16+", "_16 _16.0+ _16.2+", "_16.1+"},
	// Borrows
	{"_6 = & _3", "_3+", "", "_6+"}, {"_7 = &mut _3", "_3+", "", "_7+"}, {"_0 = & _26", "_26+", "", "_0+"}, {"_7 = &mut _7.*", "_7", "", "_7+"}, {"_6 = & _6.*", "_6", "", "_6+"}, {"_6 = & _7.*", "_7", "", "_6+"}, {"_14.* = &mut _3", "_3+ _14", "", ""}, {"_20.* = & _8", "_8+ _20", "", "_20.*+"}, {"_9 = &mut _8", "_8+", "", "_9+"},
	{"_25 = &mut _16.0.1", "_16 _16.0 _16.0.1+", "", "_25+"}, {"_6 = & _16.1.*.0.1.*", "_16 _16.1 _16.1.* _16.1.*.0 _16.1.*.0.1 _16.1.*.0.1.*+", "", "_6+"}, {"_24 = & _18.*.*.2", "_18", "", "_24+"}, {"_19 = & _23.*.*.*", "_23 _23.* _23.*.*", "", "_19+"}, {"_7 = &mut _23.*.*.*.*", "_23 _23.* _23.*.*", "", "_7+"}, {"_29 = & _16", "_16+", "", "_29+"},
	// structs and Calls
	{"_8 = #0(copy _3, move _5)", "_3+ _5+", "_5+", "_8+"}, {"_8 = #0(1, move _8.1)", "_8 _8.1+", "", "_8+"}, {"_21 = #2(copy _3, true)", "_3+", "", "_21+"}, {"_16 = #1(move _8, move _16.1, copy _4)", "_4+ _8+ _16 _16.1+", "_8+", "_16+"}, {"_22.* = #2(1, copy _24.*)", "_22 _24", "", ""}, {"_16.0 = #0(copy _16.0.0, move _16.0.1)", "_16 _16.0 _16.0.0+ _16.0.1+", "", "_16.0+"},
	{"_3 = f2(copy _3, move _5)", "_3+ _5+", "_5+", "_3+"}, {"_7.* = f2(7, move _8.1)", "_7 _8 _8.1+", "_8.1+", ""}, {"_6 = f3(copy _6, copy _4)", "_4+ _6+", "", "_6+"}, {"_8 = f4()", "", "", "_8+"}, {"_9.* = f4()", "_9", "", ""}, {"_9 = f5(move _9, copy _6)", "_6+ _9+", "", "_9+"}, {"_5 = f6(move _21)", "_21+", "_21+", "_5+"}, {"_0 = f1(copy _0, move _2)", "_0+ _2+", "_2+", "_0+"},
	{"_26 = f8(move _16.1.*.0, move _16.0.1, copy _16.0.0, 7)", "_16 _16.0 _16.0.0+ _16.0.1+ _16.1 _16.1.* _16.1.*.0+", "_16.0.1+ _16.1.*.0+", "_26+"}, {"_3 = f9(move _16.0, move _16.1.*, move _16.1.*.1)", "_16 _16.0+ _16.1 _16.1.*+", "_16.0+ _16.1.*+", "_3+"},
	// numbers and truths
	{"_4 = copy _3 < copy _26", "_3+ _26+", "", "_4+"}, {"_3 = copy _26 + copy _3", "_3+ _26+", "", "_3+"}, {"_3 = copy _3 + 1", "_3+", "", "_3+"}, {"_3 = 1 + copy _5.*", "_5 _5.*+", "", "_3+"}, {"_4 = 1 == 2", "", "", "_4+"}, {"_4 = ! copy _4", "_4+", "", "_4+"}, {"_5.* = - copy _5.*", "_5 _5.*+", "", "_5.*+"}, {"_3 = - 4", "", "", "_3+"},
	{"_3 = read", "", "", "_3+"}, {"_23.*.*.*.* = read", "_23 _23.* _23.*.*", "", ""}, {"_8.1.* = read", "_8 _8.1", "", "_8.1.*+"}, {"print copy _3", "_3+", "", ""}, {"print 4", "", "", ""}, {"print copy _6.*", "_6", "", ""}, {"print copy _8.1.*", "_8 _8.1 _8.1.*+", "", ""},
	// what ends
	{"drop _5", "", "_5+", ""}, {"drop _8", "", "_8+", ""}, {"drop _8.1", "", "_8.1+", ""}, {"drop _11.*", "", "_11.*+", ""}, {"drop _16.1.*.0", "", "_16.1.*.0+", ""}, {"drop _16", "", "_16+", ""},
	{"dead _3", "", "_3+", ""}, {"dead _5", "", "_5+", ""}, {"dead _7", "", "_7+", ""}, {"dead _1", "", "_1+", ""}, {"dead _16", "", "_16+", ""}, {"dead _23", "", "_23+", ""},
	{"goto", "", "", ""}, {"if copy _4", "_4+", "", ""}, {"if copy _24.*", "_24", "", ""}, {"if false", "", "", ""}, {"if copy _16.2", "_16 _16.2+", "", ""}, {"return", "_0+", "", ""},
}

// without are the numbers from 0 to another one but these.
func without(n int, l []int) []int {
	return slices.DeleteFunc(count(0, n), func(k int) bool { return slices.Contains(l, k) })
}

// P17.2, P17.3: what each Op uses, takes, gives.
func TestMentions(t *testing.T) {
	ops := map[api.PointOp]bool{}
	for _, m := range mentions {
		u := scene(m.text + "; return" + behind)
		mustMay(t, u)
		ops[u.Fns[1].Points[0].Op] = true
		paths := pathsOf(t, u, 1)
		gone, has := numbers(paths, m.gone), numbers(paths, m.has)
		mustUse(t, u, 1, 0, numbers(paths, m.uses)...)
		mustDo(t, u, 1, 0, gone, has)
		mustBehind(t, u, 1, 0, nil, gone...)
		mustBehind(t, u, 1, 0, count(0, len(paths)), without(len(paths), has)...)
	}
	if len(ops) != 14 {
		t.Errorf("%d Ops", len(ops))
	}
}

// again says of points which path they use though they moved it (none: none).
var agains = [][2]string{
	// of two operands the one behind
	{"_3 = f7(move _5, move _5)", "_5"}, {"_3 = f7(move _5, move _8.1)", ""}, {"_3 = f7(move _8.1, move _8.1)", "_8.1"}, {"_3 = f8(move _8, move _8.1, 1, 2)", "_8"}, {"_3 = f8(move _8, move _5, copy _8.0, 1)", "_8"}, {"_3 = f8(move _11.*, move _8.1, copy _8.0, 1)", ""}, {"_3 = f8(move _8, move _5, 1, copy _5.*)", "_5"},
	// what is below, what it lies in, neither
	{"_3 = f8(move _16.0, move _5, copy _16.0.0, 2)", "_16.0"}, {"_3 = f8(move _16.0, move _5, copy _16.1.*.0.0, 2)", ""}, {"_3 = f8(move _16.1.*.0, move _16.0.1, copy _16.0.0, copy _16.1.*.0.0)", "_16.1.*.0"}, {"_3 = f9(move _8, move _16, move _16.1.*.1)", "_16"}, {"_3 = f9(move _16.0, move _16.1.*, move _16.1)", "_16.1.*"}, {"_3 = f10(move _16.1, copy _16.2, move _16.1.*)", "_16.1"},
	{"_3 = f10(move _16.1.*.1, copy _16.1.*.2, move _16)", "_16.1.*.1"}, {"_16 = #1(move _16.0, move _16.1, copy _16.2)", ""}, {"_16 = #1(move _8, move _16.1, copy _16.1.*.2)", "_16.1"}, {"_3 = f10(move _16.1.*.1, copy _16.2, move _16.1.*)", "_16.1.*.1"},
	// the least by number, whichever operand uses it
	{"_3 = f8(move _8, move _5, copy _5.*, copy _8.0)", "_5"}, {"_3 = f8(move _8, move _5, copy _8.0, copy _5.*)", "_5"}, {"_3 = f9(move _16.0, move _16, move _16.1)", "_16"}, {"_3 = f9(move _16.0, move _16, move _16.1.*.1.*.1)", "_16"}, {"_3 = f9(move _16.0, move _16, move _31)", "_16.0"},
	// what is assigned lies in what was moved; what was moved may be assigned, and what lies in it is not used
	{"_5.* = f7(move _5, move _8.1)", "_5"}, {"_5.* = f7(move _8.1, move _8.1)", "_8.1"}, {"_5.* = f7(move _8.1, move _16.0.1)", ""}, {"_8.1.* = f7(move _5, move _8.1)", "_8.1"}, {"_8.0 = f7(move _5, move _8.1)", ""}, {"_5 = move _5", ""}, {"_8.1 = move _8.1", ""}, {"_16.1 = box move _16", "_16"}, {"_16.1.*.0 = move _16.0", ""}, {"_16.0 = #0(1, move _16.0.1)", ""}, {"_16.1.* = move _16.1.*", ""},
	{"_16.0 = move _16.1.*.0", ""}, {"_15.*.* = f12(move _15, move _5)", "_15"}, {"_15.* = move _15.*", ""}, {"_23.*.* = move _23.*.*", ""},
	// by way of a reference that was moved
	{"_9.* = f11(move _9, 1)", "_9"}, {"_9.*.1 = move _5", ""}, {"_8 = f11(move _9, copy _9.*.0)", "_9"}, {"_9 = f5(move _9, copy _6)", ""}, {"_7.* = f7(move _5, move _8.1)", ""}, {"_14.* = move _7", ""},
	// no operands that move
	{"_3 = copy _3", ""}, {"_4 = copy _3 == copy _3", ""}, {"_29 = & _16", ""}, {"drop _5", ""}, {"dead _5", ""}, {"goto", ""}, {"return", ""}, {"if copy _4", ""}, {"print copy _5.*", ""}, {"_3 = read", ""}, {"_8 = f4()", ""},
}

// P17.2: what a point uses though one of its own operands has moved it.
func TestAgain(t *testing.T) {
	for _, x := range agains {
		u := scene(x[0] + "; return" + behind)
		u.Fns[1].Locals = append(u.Fns[1].Locals, typeOf("Box<#1>"))
		u.Fns[1].Names = append(u.Fns[1].Names, "")
		mustMay(t, u)
		want := -1
		if x[1] != "" {
			want = slices.Index(pathsOf(t, u, 1), x[1])
			must(want >= 0, x[1])
		}
		mustAgain(t, u, 1, 0, want)
	}
}

// P17.1: which paths there are: of all locals, of what stands in any point, whoever comes there, as far as it goes through no reference, with what it lies in; in places' order.
func TestPaths(t *testing.T) {
	for _, x := range []struct{ locals, points, want string }{
		{"i64", "return", "_0"},
		{"i64; Box<i64>; #0", "return", "_0 _1 _2"},
		// each field of a point
		{"i64; Box<i64>", "_0 = copy _1.*; return", "_0 _1 _1.*"},
		{"i64; #0", "_0 = 1 + copy _1.0; return", "_0 _1 _1.0"},
		{"i64; #0; Box<i64>", "_0 = f2(copy _1.0, move _1.1); return", "_0 _1 _1.0 _1.1 _2"},
		{"i64; #2", "_1 = #2(1, copy _1.1); return", "_0 _1 _1.1"},
		{"i64; #0; &i64", "_2 = & _1.1.*; return", "_0 _1 _1.1 _1.1.* _2"},
		{"i64; #0", "drop _1.1; return", "_0 _1 _1.1"},
		{"i64; #0", "dead _1; return", "_0 _1"},
		{"i64; #0", "_1.0 = read; return", "_0 _1 _1.0"},
		{"#0", "_0.1 = box 1; return", "_0 _0.1"},
		{"i64; #2", "if copy _1.1; return", "_0 _1 _1.1"},
		{"i64; #2", "print copy _1.0; return", "_0 _1 _1.0"},
		{"i64; #2", "print 1; if true; _0 = 4; return", "_0 _1"},
		// nobody comes there
		{"i64; #2", "return; print copy _1.0; return", "_0 _1 _1.0"},
		// with all prefixes; each once
		{"i64; #1", "if copy _1.1.*.1.*.2; return", "_0 _1 _1.1 _1.1.* _1.1.*.1 _1.1.*.1.* _1.1.*.1.*.2"},
		{"i64; #1", "if copy _1.1.*.2; if copy _1.1.*.2; if copy _1.2; drop _1.1; drop _1; return", "_0 _1 _1.1 _1.1.* _1.1.*.2 _1.2"},
		{"i64; #1", "drop _1.1.*; if copy _1.1.*.2; drop _1.0; drop _1.1.*.1; return", "_0 _1 _1.0 _1.1 _1.1.* _1.1.*.1 _1.1.*.2"},
		// through no reference
		{"i64; &mut #1", "if copy _1.*.1.*.2; return", "_0 _1"},
		{"i64; &#1", "if copy _1.*.1.*.2; return", "_0 _1"},
		{"i64; Box<&mut Box<i64>>; &mut i64", "_2 = &mut _1.*.*.*; return", "_0 _1 _1.* _2"},
		{"i64; Box<&Box<i64>>; &i64", "_2 = & _1.*.*.*; return", "_0 _1 _1.* _2"},
		{"i64; Box<&mut Box<i64>>", "_1.*.*.* = 1; return", "_0 _1 _1.*"},
		{"i64; Box<&Box<i64>>", "_0 = copy _1.*.*.*; return", "_0 _1 _1.*"},
		// by number, not by text
		{"i64; #0; i64; i64; i64; i64; i64; i64; i64; i64; #0; Box<i64>", "drop _10.1; print copy _1.0; print copy _11.*; return", "_0 _1 _1.0 _2 _3 _4 _5 _6 _7 _8 _9 _10 _10.1 _11 _11.*"},
	} {
		u := unitOf(graphOf(0, 0, x.locals, x.points), graphOf(0, 2, "i64; i64; Box<i64>", "return"))
		mustMay(t, u)
		mustPaths(t, u, 1, x.want)
		mustPaths(t, u, 0, "_0")
	}
}

// P17.1: the number of a place's path; of a place that goes through a reference it is that of what it goes by; of a place whose path is none there is none, whatever it goes on to.
func TestPath(t *testing.T) {
	u := unitOf(graphOf(0, 0, "i64; #1; &mut #1; Box<&#1>; Box<&mut #1>", "drop _1.1.*; drop _1.0; _0 = copy _4.*.*.0.0; return"))
	mustMay(t, u)
	mustPaths(t, u, 1, "_0 _1 _1.0 _1.1 _1.1.* _2 _3 _4 _4.*")
	for text, want := range map[string]int{"_0": 0, "_1": 1, "_1.0": 2, "_1.1": 3, "_1.1.*": 4, "_2": 5, "_2.*": 5, "_2.*.1.*.0.1.*": 5, "_3": 6, "_4": 7, "_4.*": 8, "_4.*.*": 8, "_4.*.*.1.*.1": 8} {
		mustPath(t, u, 1, placeOf(text), want)
	}
	for _, text := range []string{"_1.2", "_1.0.0", "_1.0.1.*", "_1.1.*.0", "_1.1.*.1.*", "_3.*", "_3.*.*", "_3.*.*.0.0"} {
		if n, e := move.Path(u, 1, placeOf(text)); n != 0 || e != api.ErrArg {
			t.Errorf("%s: %d, %v", text, n, e)
		}
	}
	mustPath(t, u, 0, placeOf("_0"), 0)
}

// P17.1: what is below each path.
func TestBelow(t *testing.T) {
	u := unitOf(graphOf(0, 0, "i64; #1; Box<i64>; #0; Box<Box<i64>>", "if copy _1.1.*.2; if copy _1.2; drop _1.0; drop _3.1; print copy _4.*.*; return"))
	mustMay(t, u)
	mustPaths(t, u, 1, "_0 _1 _1.0 _1.1 _1.1.* _1.1.*.2 _1.2 _2 _3 _3.1 _4 _4.* _4.*.*")
	for path, want := range [][]int{{0}, {1, 2, 3, 4, 5, 6}, {2}, {3, 4, 5}, {4, 5}, {5}, {6}, {7}, {8, 9}, {9}, {10, 11, 12}, {11, 12}, {12}} {
		mustBelow(t, u, 1, path, want...)
	}
}

// P17.1: at the start parameters have a value, and all that is below them; local 0 and all others have none.
func TestStart(t *testing.T) {
	const points = "print copy _0.0; print copy _1.0; drop _2.1; print copy _3.0; return"
	for params, want := range [][]int{{0, 1, 2, 3, 4, 5, 6, 7}, {0, 1, 4, 5, 6, 7}, {0, 1, 6, 7}, {0, 1}} {
		u := unitOf(graphOf(0, params, "#0; #0; #0; #0", points))
		mustMay(t, u)
		mustPaths(t, u, 1, "_0 _0.0 _1 _1.0 _2 _2.1 _3 _3.0")
		mustStart(t, u, 1, want...)
		mustStart(t, u, 0, 0)
	}
}

// P17.3: what was without a value stays so, but for what is given one.
func TestBehind(t *testing.T) {
	u := unitOf(graphOf(0, 0, "i64; #1; #0; &mut #1; i64", "_1.0 = move _2; _1 = #1(move _2, move _1.1, true); _3.*.0 = move _2; drop _1.1; dead _1; _2 = move _1.0; _4 = copy _2.0; goto; return"))
	mustMay(t, u)
	mustPaths(t, u, 1, "_0 _1 _1.0 _1.1 _2 _2.0 _3 _4")
	for _, x := range []struct {
		q          int
		gone, want []int
	}{
		{0, nil, []int{4, 5}}, {0, []int{0, 1, 2, 3}, []int{0, 1, 3, 4, 5}}, {0, []int{1}, []int{1, 4, 5}}, {0, []int{5, 6}, []int{4, 5, 6}},
		{1, nil, []int{4, 5}}, {1, []int{0, 1, 2, 3, 4, 5, 6, 7}, []int{0, 4, 5, 6, 7}}, {1, []int{2}, []int{4, 5}},
		{2, nil, []int{4, 5}}, {2, []int{2, 3, 7}, []int{2, 3, 4, 5, 7}},
		{3, nil, []int{3}}, {3, []int{3}, []int{3}}, {3, []int{0, 2}, []int{0, 2, 3}},
		{4, nil, []int{1, 2, 3}}, {4, []int{2, 6}, []int{1, 2, 3, 6}},
		{5, nil, []int{2}}, {5, []int{4, 5}, []int{2}}, {5, []int{1, 4}, []int{1, 2}},
		{6, []int{4, 5, 7}, []int{4, 5}}, {6, nil, nil},
		{7, nil, nil}, {7, []int{0, 7}, []int{0, 7}}, {8, []int{0, 1}, []int{0, 1}}, {8, nil, nil},
	} {
		mustBehind(t, u, 1, x.q, x.gone, x.want...)
	}
}
