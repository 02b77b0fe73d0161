package loan_test

import (
	"fmt"
	"slices"
	"testing"

	"loanword/api"
	"loanword/place"
	"loanword/types"
)

// example is the chapter's.
func example() api.Unit {
	return api.Unit{Fns: []api.Graph{graphOf(0, 0, "i64; i64; &mut i64; Box<i64>", "_2 = &mut _1; _1 = 2; _2.* = 3; return")}}
}

// P16.1 to P16.4: the chapter's examples.
func TestExamples(t *testing.T) {
	u := example()
	mustMay(t, u)
	mustOf(t, u, 0, "0 &mut _1 '1")
	mustLook(t, u, 0, 0, "_1 deep written, _2 shallow written")
	mustLook(t, u, 0, 1, "_1 shallow written")
	mustLook(t, u, 0, 2, "_2.* shallow written")
	mustLook(t, u, 0, 3, "_0 deep written, _1 dropping written, _2 dropping written, _3 dropping written")
	mustKill(t, u, 0, 0)
	mustKill(t, u, 0, 1, 0)
	mustKill(t, u, 0, 2)
	mustKill(t, u, 0, 3)
	rows := rowsOf(t, u, 0, []int{1, 2})
	ranges := mustRange(t, u, 0, rows, []int{1})
	mustBroken(t, u, 0, ranges, 0, 1, false)
	mustClosed(t, u, 0, rows, ranges, 0, 0, true)
	mustClosed(t, u, 0, rows, rangesOf(u, 0, nil), 0, 1, false)
	mustWhy(t, u, 0, rows, 0, 1, 0, 1)
	mustWhy(t, u, 0, rows, 0, 2)
}

// P16.1: the chapter's loan of what a box has.
func TestExampleBox(t *testing.T) {
	u := api.Unit{Fns: []api.Graph{graphOf(0, 0, "i64; i64; &i64; Box<i64>", "_2 = & _3.*; return")}}
	mustMay(t, u)
	mustBreak(t, u, 0, 0, accessOf("_3 shallow written"), false)
	mustBreak(t, u, 0, 0, accessOf("_3 dropping written"), true)
	mustBreak(t, u, 0, 0, accessOf("_3.* deep read"), false)
}

// The structs are #0 {i64, Box<i64>}, #1 {#0, Box<#1>, bool}, #2 {i64, bool}, #3 {#2, i64}.
const (
	locals = "&'0 i64; &'0 i64; &'1 mut #1; i64; bool; Box<i64>; &i64; &mut i64; #0; &mut #0; &#0; Box<#0>; Box<&mut i64>; & &mut i64; &mut &mut i64; Box<Box<i64>>; " +
		"#1; &mut Box<#1>; &mut &#1; &Box<i64>; Box<&#0>; #2; &mut #2; Box<Box<&mut Box<i64>>>; &bool; &mut Box<i64>; i64; #3; &mut #3; &#1; Box<#2>"
	lives = 2 // lifetimes of the scene
)

// scene is a unit whose graph 1 has locals of all kinds, and these points; what its Calls call is beside it.
func scene(points string) api.Unit {
	g := outlives(graphOf(lives, 2, locals, points), "1:0")
	return unitOf(g,
		graphOf(0, 2, "i64; i64; Box<i64>", "_0 = copy _2.*; return"),
		graphOf(1, 2, "&'0 i64; &'0 i64; bool", "return"),
		graphOf(0, 0, "#0", "return"),
		outlives(graphOf(2, 2, "&'0 mut #0; &'0 mut #0; &'1 i64", "return"), "1:0"),
		graphOf(0, 1, "Box<i64>; #2", "return"),
	)
}

// mention says what one point looks at, and of which places it kills the loans (none: of none).
type mention struct{ text, looks, kills string }

var mentions = []mention{
	{"_3 = 5", "_3 shallow written", "_3"}, {"_3 = copy _26", "_26 deep read, _3 shallow written", "_3"}, {"_3 = copy _3", "_3 deep read, _3 shallow written", "_3"}, {"_4 = true", "_4 shallow written", "_4"}, {"_0 = copy _1", "_1 deep read, _0 shallow written", "_0"},
	{"_5 = move _5", "_5 deep written, _5 dropping written", "_5"}, {"_5.* = 4", "_5.* shallow written", "_5.*"}, {"_3 = copy _5.*", "_5.* deep read, _3 shallow written", "_3"}, {"_5 = move _8.1", "_8.1 deep written, _5 dropping written", "_5"},
	{"_7 = move _7", "_7 deep written, _7 shallow written", "_7"}, {"_7.* = copy _6.*", "_6.* deep read, _7.* shallow written", "_7.*"}, {"_6 = copy _6", "_6 deep read, _6 shallow written", "_6"}, {"_7 = move _12.*", "_12.* deep written, _7 shallow written", "_7"},
	{"_14.* = move _7", "_7 deep written, _14.* shallow written", "_14.*"}, {"_14.*.* = 1", "_14.*.* shallow written", "_14.*.*"}, {"_13 = copy _13", "_13 deep read, _13 shallow written", "_13"}, {"_3 = copy _13.*.*", "_13.*.* deep read, _3 shallow written", "_3"},
	{"_8 = move _11.*", "_11.* deep written, _8 dropping written", "_8"}, {"_8.0 = 7", "_8.0 shallow written", "_8.0"}, {"_8.1 = move _5", "_5 deep written, _8.1 dropping written", "_8.1"}, {"_8.1.* = 3", "_8.1.* shallow written", "_8.1.*"}, {"_9.*.1 = move _5", "_5 deep written, _9.*.1 dropping written", "_9.*.1"},
	{"_9.* = move _8", "_8 deep written, _9.* dropping written", "_9.*"}, {"_9.*.0 = copy _10.*.0", "_10.*.0 deep read, _9.*.0 shallow written", "_9.*.0"}, {"_10 = copy _20.*", "_20.* deep read, _10 shallow written", "_10"}, {"_25.* = move _5", "_5 deep written, _25.* dropping written", "_25.*"},
	{"_21 = move _30.*", "_30.* deep written, _21 shallow written", "_21"}, {"_22.* = move _21", "_21 deep written, _22.* shallow written", "_22.*"}, {"_27.0 = move _21", "_21 deep written, _27.0 shallow written", "_27.0"}, {"_27 = move _27", "_27 deep written, _27 shallow written", "_27"}, {"_28.*.0.1 = copy _4", "_4 deep read, _28.*.0.1 shallow written", "_28.*.0.1"},
	{"_16 = move _16", "_16 deep written, _16 dropping written", "_16"}, {"_16.0 = move _8", "_8 deep written, _16.0 dropping written", "_16.0"}, {"_16.1.*.1.*.2 = false", "_16.1.*.1.*.2 shallow written", "_16.1.*.1.*.2"}, {"_2.*.1.*.0.1 = move _5", "_5 deep written, _2.*.1.*.0.1 dropping written", "_2.*.1.*.0.1"}, {"_17.*.*.2 = true", "_17.*.*.2 shallow written", "_17.*.*.2"},
	{"_15 = move _15", "_15 deep written, _15 dropping written", "_15"}, {"_15.* = move _5", "_5 deep written, _15.* dropping written", "_15.*"}, {"_18.* = copy _29", "_29 deep read, _18.* shallow written", "_18.*"}, {"_23.*.*.* = move _5", "_5 deep written, _23.*.*.* dropping written", "_23.*.*.*"}, {"_23.*.* = move _25", "_25 deep written, _23.*.* shallow written", "_23.*.*"},
	{"_5 = box copy _3", "_3 deep read, _5 dropping written", "_5"}, {"_5 = box 1", "_5 dropping written", "_5"}, {"_5 = box copy _5.*", "_5.* deep read, _5 dropping written", "_5"}, {"_11 = box move _8", "_8 deep written, _11 dropping written", "_11"}, {"_8.1 = box 5", "_8.1 dropping written", "_8.1"}, {"_12 = box move _7", "_7 deep written, _12 dropping written", "_12"}, {"_25.* = box 9", "_25.* dropping written", "_25.*"}, {"_30 = box move _21", "_21 deep written, _30 dropping written", "_30"},
	{"_6 = & _3", "_3 deep read, _6 shallow written", "_6"}, {"_7 = &mut _3", "_3 deep written, _7 shallow written", "_7"}, {"_0 = & _26", "_26 deep read, _0 shallow written", "_0"}, {"_7 = &mut _7.*", "_7.* deep written, _7 shallow written", "_7"}, {"_6 = & _6.*", "_6.* deep read, _6 shallow written", "_6"}, {"_6 = & _7.*", "_7.* deep read, _6 shallow written", "_6"},
	{"_14.* = &mut _3", "_3 deep written, _14.* shallow written", "_14.*"}, {"_20.* = & _8", "_8 deep read, _20.* shallow written", "_20.*"}, {"_9 = &mut _8", "_8 deep written, _9 shallow written", "_9"}, {"_25 = &mut _16.0.1", "_16.0.1 deep written, _25 shallow written", "_25"}, {"_6 = & _16.1.*.0.1.*", "_16.1.*.0.1.* deep read, _6 shallow written", "_6"}, {"_24 = & _18.*.*.2", "_18.*.*.2 deep read, _24 shallow written", "_24"}, {"_19 = & _23.*.*.*", "_23.*.*.* deep read, _19 shallow written", "_19"}, {"_7 = &mut _23.*.*.*.*", "_23.*.*.*.* deep written, _7 shallow written", "_7"},
	{"_8 = #0(copy _3, move _5)", "_3 deep read, _5 deep written, _8 dropping written", "_8"}, {"_8 = #0(1, move _8.1)", "_8.1 deep written, _8 dropping written", "_8"}, {"_21 = #2(copy _3, true)", "_3 deep read, _21 shallow written", "_21"}, {"_16 = #1(move _8, move _16.1, copy _4)", "_8 deep written, _16.1 deep written, _4 deep read, _16 dropping written", "_16"}, {"_22.* = #2(1, copy _24.*)", "_24.* deep read, _22.* shallow written", "_22.*"}, {"_16.0 = #0(copy _16.0.0, move _16.0.1)", "_16.0.0 deep read, _16.0.1 deep written, _16.0 dropping written", "_16.0"},
	{"_3 = f2(copy _3, move _5)", "_3 deep read, _5 deep written, _3 shallow written", "_3"}, {"_7.* = f2(7, move _8.1)", "_8.1 deep written, _7.* shallow written", "_7.*"}, {"_6 = f3(copy _6, copy _4)", "_6 deep read, _4 deep read, _6 shallow written", "_6"}, {"_8 = f4()", "_8 dropping written", "_8"}, {"_9.* = f4()", "_9.* dropping written", "_9.*"}, {"_9 = f5(move _9, copy _6)", "_9 deep written, _6 deep read, _9 shallow written", "_9"}, {"_5 = f6(move _21)", "_21 deep written, _5 dropping written", "_5"}, {"_0 = f1(copy _0, move _2)", "_0 deep read, _2 deep written, _0 shallow written", "_0"},
	{"_4 = copy _3 < copy _26", "_3 deep read, _26 deep read, _4 shallow written", "_4"}, {"_3 = copy _26 + copy _3", "_26 deep read, _3 deep read, _3 shallow written", "_3"}, {"_3 = copy _3 + 1", "_3 deep read, _3 shallow written", "_3"}, {"_3 = 1 + copy _5.*", "_5.* deep read, _3 shallow written", "_3"}, {"_4 = 1 == 2", "_4 shallow written", "_4"}, {"_4 = ! copy _4", "_4 deep read, _4 shallow written", "_4"}, {"_5.* = - copy _5.*", "_5.* deep read, _5.* shallow written", "_5.*"}, {"_3 = - 4", "_3 shallow written", "_3"},
	{"_3 = read", "_3 shallow written", "_3"}, {"_23.*.*.*.* = read", "_23.*.*.*.* shallow written", "_23.*.*.*.*"}, {"print copy _3", "_3 deep read", ""}, {"print 4", "", ""}, {"print copy _6.*", "_6.* deep read", ""},
	{"drop _5", "_5 dropping written", ""}, {"drop _8", "_8 dropping written", ""}, {"drop _8.1", "_8.1 dropping written", ""}, {"drop _11.*", "_11.* dropping written", ""}, {"drop _16.1.*.0", "_16.1.*.0 dropping written", ""},
	{"dead _3", "_3 dropping written", "_3"}, {"dead _5", "_5 dropping written", "_5"}, {"dead _7", "_7 dropping written", "_7"}, {"dead _1", "_1 dropping written", "_1"}, {"dead _16", "_16 dropping written", "_16"}, {"dead _23", "_23 dropping written", "_23"},
	{"goto", "", ""}, {"if copy _4", "_4 deep read", ""}, {"if copy _24.*", "_24.* deep read", ""}, {"if false", "", ""},
}

// P16.1: what each Op looks at, and kills.
func TestMentions(t *testing.T) {
	ops := map[api.PointOp]bool{}
	for _, m := range mentions {
		u := scene(m.text + "; return")
		mustMay(t, u)
		mustLook(t, u, 1, 0, m.looks)
		ops[u.Fns[1].Points[0].Op] = true
	}
	if len(ops) != 13 {
		t.Errorf("%d Ops", len(ops))
	}
	u := scene("return")
	want := "_0 deep written"
	for local := 1; local < len(u.Fns[1].Locals); local++ {
		want += fmt.Sprintf(", _%d dropping written", local)
	}
	mustLook(t, u, 1, 0, want)
	mustKill(t, u, 1, 0)
	mustLook(t, u, 0, 0, "_0 deep written")
	mustLook(t, u, 2, 1, "_0 deep written, _1 dropping written, _2 dropping written")
}

// lend lays a Borrow of a place into a graph, into a new local, ahead of its points.
func lend(t *testing.T, u api.Unit, fn int, from string, mut bool) {
	t.Helper()
	g := &u.Fns[fn]
	x := ask(t, u, fn).typeOf(placeOf(from))
	var none []int
	for range types.Regions(x) {
		none = append(none, -1)
	}
	x, e := types.Anew(x, none...)
	must(e == api.OK, from)
	g.Locals = append(g.Locals, api.Type{Kind: api.TyRef, Mut: mut, Region: -1, Of: []api.Type{x}})
	g.Names = append(g.Names, "")
	for q := range g.Points {
		g.Points[q].Next++
		if g.Points[q].Op == api.Return {
			g.Points[q].Next = 0
		}
		if g.Points[q].Op == api.Branch {
			g.Points[q].Else++
		}
	}
	p := api.Point{Op: api.Borrow, To: api.Place{Local: len(g.Locals) - 1}, From: placeOf(from), Mut: mut, Next: 1}
	g.Points = append([]api.Point{p}, g.Points...)
}

// P16.1: a point that assigns kills loans of that place and of all that goes on from it, Dead those of the local; Drop, and what is read, none. (Of these places each is a prefix of some others, or none.)
func TestKills(t *testing.T) {
	places := []string{"_3", "_4", "_5", "_5.*", "_7.*", "_8", "_8.0", "_8.1", "_8.1.*", "_9.*", "_9.*.1", "_9.*.1.*", "_14.*.*", "_16", "_16.0", "_16.0.1", "_16.1.*.1.*.2", "_16.1.*", "_16.2", "_23", "_23.*", "_23.*.*", "_23.*.*.*", "_23.*.*.*.*", "_2.*.1.*.0.1", "_2.*", "_1.*", "_18.*", "_18.*.*.2"}
	for _, m := range mentions {
		u := scene(m.text + "; return")
		var want []int
		for k := len(places) - 1; k >= 0; k-- { // each goes ahead of those that are there
			lend(t, u, 1, places[k], false)
		}
		for k, p := range places {
			if m.kills != "" && (p == m.kills || len(p) > len(m.kills) && p[:len(m.kills)+1] == m.kills+".") {
				want = append(want, k)
			}
		}
		if u.Fns[1].Points[len(places)].Op == api.Borrow { // its own loan
			p, to := u.Fns[1].Points[len(places)].From, m.kills
			if s := place.Text(p); s == to || len(s) > len(to) && s[:len(to)+1] == to+"." {
				want = append(want, len(places))
			}
		}
		mustMay(t, u)
		mustKill(t, u, 1, len(places), want...)
	}
}

// broken says which accesses of a place break a loan of another one, if one of the two writes: s those that are shallow, o those that are dropping, d those that are deep.
type broken struct{ lent, access, by string }

var breaks = []broken{
	// of the same place, and of one that goes on from it: however far the access goes
	{"_3", "_3", "sod"}, {"_5", "_5", "sod"}, {"_5", "_5.*", "sod"}, {"_7", "_7.*", "sod"}, {"_6", "_6.*", "sod"}, {"_8", "_8.1.*", "sod"}, {"_13", "_13.*.*", "sod"}, {"_23.*.*", "_23.*.*.*.*", "sod"}, {"_16.1.*", "_16.1.*.1.*.2", "sod"}, {"_10.*", "_10.*.0", "sod"}, {"_6.*", "_6.*", "sod"},
	// of a field: through no Deref
	{"_8.0", "_8", "sod"}, {"_16.0.0", "_16", "sod"}, {"_16.2", "_16", "sod"}, {"_27.0.1", "_27", "sod"}, {"_27.0.1", "_27.0", "sod"}, {"_9.*.0", "_9.*", "sod"}, {"_16.1", "_16", "sod"}, {"_8.1", "_8", "sod"},
	// of what a box has: what drops it goes through it
	{"_5.*", "_5", "od"}, {"_8.1.*", "_8", "od"}, {"_8.1.*", "_8.1", "od"}, {"_15.*", "_15", "od"}, {"_15.*.*", "_15", "od"}, {"_15.*.*", "_15.*", "od"}, {"_16.1.*.0.0", "_16", "od"}, {"_16.1.*.0.0", "_16.1", "od"}, {"_16.1.*.0.0", "_16.1.*", "sod"}, {"_16.1.*.1.*.2", "_16.1.*", "od"}, {"_16.1.*.1.*.2", "_16.1.*.1.*", "sod"}, {"_11.*.1", "_11", "od"}, {"_9.*.1.*", "_9.*", "od"},
	// of what a mutable reference points to: what is deep goes through it
	{"_7.*", "_7", "d"}, {"_9.*.0", "_9", "d"}, {"_9.*.1.*", "_9", "d"}, {"_14.*", "_14", "d"}, {"_14.*.*", "_14", "d"}, {"_14.*.*", "_14.*", "d"}, {"_12.*", "_12", "od"}, {"_12.*.*", "_12", "d"}, {"_12.*.*", "_12.*", "d"}, {"_2.*.1.*.0.1", "_2", "d"}, {"_2.*.1.*.0.1", "_2.*", "od"}, {"_2.*.1.*.0.1", "_2.*.1.*", "sod"}, {"_17.*.*.2", "_17", "d"}, {"_17.*.*.2", "_17.*", "od"},
	{"_23.*.*.*.*", "_23", "d"}, {"_23.*.*.*.*", "_23.*", "d"}, {"_23.*.*.*.*", "_23.*.*", "d"}, {"_23.*.*.*.*", "_23.*.*.*", "od"}, {"_23.*.*.*", "_23", "d"}, {"_23.*.*.*", "_23.*.*", "d"}, {"_23.*.*", "_23", "od"}, {"_25.*.*", "_25", "d"}, {"_25.*.*", "_25.*", "od"},
	// of what a shared reference points to: nothing goes through it
	{"_6.*", "_6", ""}, {"_1.*", "_1", ""}, {"_0.*", "_0", ""}, {"_10.*.0", "_10", ""}, {"_10.*.1.*", "_10", ""}, {"_10.*.1.*", "_10.*", "od"}, {"_10.*.1.*", "_10.*.1", "od"}, {"_13.*", "_13", ""}, {"_13.*.*", "_13", ""}, {"_13.*.*", "_13.*", "d"}, {"_18.*.*", "_18", ""}, {"_18.*", "_18", "d"}, {"_18.*.*.2", "_18.*", ""}, {"_18.*.*.2", "_18.*.*", "sod"}, {"_19.*.*", "_19", ""}, {"_19.*.*", "_19.*", "od"}, {"_20.*.*.0", "_20", ""}, {"_20.*", "_20", "od"}, {"_20.*.*.0", "_20.*", ""}, {"_20.*.*.0", "_20.*.*", "sod"}, {"_29.*.1.*.0", "_29.*", "od"},
	// of neither
	{"_3", "_4", ""}, {"_3", "_26", ""}, {"_8.0", "_8.1", ""}, {"_8.0", "_8.1.*", ""}, {"_8.1.*", "_8.0", ""}, {"_5.*", "_15.*", ""}, {"_16.0.1", "_16.1", ""}, {"_16.0.1.*", "_16.0.0", ""}, {"_16.1.*.0", "_16.1.*.1", ""}, {"_7.*", "_14.*", ""}, {"_0", "_1", ""},
}

// P16.1: how far accesses go; if neither writes, none breaks.
func TestBreaks(t *testing.T) {
	for _, x := range breaks {
		for _, mut := range []bool{false, true} {
			u := scene("return")
			if mut && ask(t, u, 1).isShared(placeOf(x.lent)) {
				continue // not to be had
			}
			lend(t, u, 1, x.lent, mut)
			mustMay(t, u)
			for letter, d := range map[rune]api.Depth{'s': api.Shallow, 'o': api.Dropping, 'd': api.Deep} {
				reached := slices.Contains([]rune(x.by), letter)
				mustBreak(t, u, 1, 0, api.Access{Place: placeOf(x.access), Depth: d, Write: true}, reached)
				mustBreak(t, u, 1, 0, api.Access{Place: placeOf(x.access), Depth: d}, reached && mut)
			}
		}
	}
}

// P16.1: a graph's loans: in the order of the points, whatever order they are gone through in, those too that nobody reaches; a loan's region is what its Borrow makes, behind those of the locals and of Calls ahead of it.
func TestOf(t *testing.T) {
	u := unitOf(graphOf(2, 1, "&'1 i64; &'0 &'1 i64; &i64; i64; &mut i64", "goto; _2 = & _1.*.*; _2 = f2(copy _2); _0 = & _3; return; _4 = &mut _3; _4 = &mut _4.*; return"), graphOf(3, 1, "&'2 i64; &'0 i64", "return"))
	u.Fns[1].Outlives = []api.Outlives{{Long: 1, Short: 0}}
	u.Fns[1].Points[0].Next = 5
	u.Fns[1].Points[6].Next = 1
	mustMay(t, u)
	mustOf(t, u, 1, "1 & _1.*.* '4, 3 & _3 '8, 5 &mut _3 '9, 6 &mut _4.* '10")
	mustOf(t, u, 0, "")
	mustOf(t, u, 2, "")
}

// diamonds are two ways from a Borrow to a point, and from there two to another one.
func diamonds() api.Unit {
	return unitOf(graphOf(1, 0, "&'0 i64; i64; &i64; Box<i64>; i64", "if true -> 3 else 1; _2 = & _3.* -> 2; if true -> 6 else 4; goto -> 1; goto -> 7; goto -> 7; goto -> 5; if true -> 9 else 8; goto -> 10; goto -> 10; goto -> 3; return"))
}

// P16.4: the shortest way is told, of equally short ones the first one by number, whichever successor is Next; by points that the row has, and at which the loan is not killed.
func TestWhy(t *testing.T) {
	u := diamonds()
	mustMay(t, u)
	rows := rowsOf(t, u, 1)
	mustRange(t, u, 1, rows, []int{1, 2, 3, 4, 5, 6, 7, 8, 9, 10})
	mustWhy(t, u, 1, rows, 0, 10, 1, 2, 4, 7, 8, 10)
	mustWhy(t, u, 1, rows, 0, 5, 1, 2, 6, 5)
	mustWhy(t, u, 1, rows, 0, 3, 1, 2, 4, 7, 8, 10, 3)
	mustWhy(t, u, 1, rows, 0, 1, 1)
	mustWhy(t, u, 1, rows, 0, 0)
	mustWhy(t, u, 1, rows, 0, 11)
	// without a point
	mustWhy(t, u, 1, rowsOf(t, u, 1, []int{2, 3, 5, 6, 7, 8, 9, 10}), 0, 10, 1, 2, 6, 5, 7, 8, 10)
	mustWhy(t, u, 1, rowsOf(t, u, 1, []int{2, 3, 4, 5, 6, 7, 9, 10}), 0, 10, 1, 2, 4, 7, 9, 10)
	mustWhy(t, u, 1, rowsOf(t, u, 1, []int{2, 3, 4, 7, 9, 10}), 0, 3, 1, 2, 4, 7, 9, 10, 3)
	mustWhy(t, u, 1, rowsOf(t, u, 1, []int{1, 2, 5, 6, 8, 9, 10}), 0, 10)
	mustWhy(t, u, 1, rowsOf(t, u, 1, []int{1, 2, 5, 6, 8, 9, 10}), 0, 1)
	mustWhy(t, u, 1, rowsOf(t, u, 1, []int{3, 4, 5, 6, 7}), 0, 2)
	mustWhy(t, u, 1, rowsOf(t, u, 1, []int{2, 3, 4, 5, 6, 7, 8, 9, 10}), 0, 1) // its own point, which the row has not
	// a point at which it is killed: on the way, at the end
	u.Fns[1].Points[4] = pointOf("_3 = box 1 -> 7", 4)
	mustWhy(t, u, 1, rows, 0, 10, 1, 2, 6, 5, 7, 8, 10)
	mustWhy(t, u, 1, rows, 0, 4, 1, 2, 4)
	u.Fns[1].Points[7] = pointOf("_3.* = 1 -> 8", 7)
	mustWhy(t, u, 1, rows, 0, 7, 1, 2, 6, 5, 7)
	mustWhy(t, u, 1, rows, 0, 8)
	mustWhy(t, u, 1, rows, 0, 1)
	// at its own point it is not killed as it begins there
	u.Fns[1].Points[7] = pointOf("if true -> 9 else 8", 7)
	u.Fns[1].Points[1] = pointOf("_2 = & _2.* -> 2", 1)
	mustMay(t, u)
	mustKill(t, u, 1, 1, 0)
	mustWhy(t, u, 1, rows, 0, 8, 1, 2, 4, 7, 8)
	mustWhy(t, u, 1, rows, 0, 1, 1)
}

// P16.2: what is wanting in ranges is told by the loan first, then by the point; only what rule 5 says of these ranges is: not what would follow, were they more.
func TestClosed(t *testing.T) {
	u := unitOf(graphOf(1, 0, "&'0 i64; i64; &i64; Box<i64>; bool", "_2 = & _3.* -> 5; return; _2 = & _1 -> 4; goto -> 1; if copy _4 -> 3 else 1; if copy _4 -> 4 else 2"))
	mustMay(t, u)
	rows := rowsOf(t, u, 1)
	closed := func(k, at int, ok bool, ranges ...[]int) {
		t.Helper()
		mustClosed(t, u, 1, rows, rangesOf(u, 1, ranges...), k, at, ok)
	}
	ranges := [][]int{{1, 2, 3, 4, 5}, {1, 3, 4}}
	mustRange(t, u, 1, rows, ranges...)
	closed(0, 0, true, ranges...)
	closed(0, 5, false, nil, nil)
	closed(0, 1, false, []int{4}, []int{1, 3, 4})
	closed(0, 2, false, []int{5}, nil)
	closed(0, 4, false, []int{2, 5}, nil)
	closed(0, 1, false, []int{2, 4, 5}, nil)
	closed(0, 3, false, []int{1, 2, 4, 5}, nil)
	closed(1, 4, false, []int{1, 2, 3, 4, 5}, nil)
	closed(1, 1, false, []int{1, 2, 3, 4, 5}, []int{4})
	closed(0, 0, true, []int{0, 1, 2, 3, 4, 5}, []int{1, 3, 4})
	closed(1, 5, false, []int{0, 1, 2, 3, 4, 5}, []int{0, 1, 3, 4})
	rows = rowsOf(t, u, 1, []int{0, 1, 2, 3, 5}, nil)
	mustRange(t, u, 1, rows, []int{2, 5}, nil)
	closed(0, 0, true, []int{2, 5}, nil)
	closed(0, 0, true, []int{2, 4, 5, 1, 3}, nil)
	closed(0, 1, false, []int{2, 4, 5}, nil)
}

// P16.3: the first point that breaks one is told, and of that the first loan, whichever access breaks it; what is not in force is not broken, nor what another point breaks.
func TestBroken(t *testing.T) {
	u := unitOf(graphOf(1, 0, "&'0 i64; i64; &i64; Box<i64>; &mut i64; i64", "_2 = & _1; _2 = & _3.*; _4 = &mut _5; goto; _3 = box copy _5; _5 = copy _1 + copy _5; drop _3; return"))
	mustMay(t, u)
	broken := func(k, at int, ok bool, ranges ...[]int) {
		t.Helper()
		mustBroken(t, u, 1, rangesOf(u, 1, ranges...), k, at, ok)
	}
	all := count(0, 8)
	broken(2, 2, false, all, all, all)
	broken(0, 0, true, nil, nil, nil)
	broken(0, 0, true, count(0, 7), []int{0, 1, 2, 3, 5}, []int{0, 1, 3, 6})
	broken(1, 4, false, all, []int{0, 1, 2, 3, 4, 5}, []int{0, 1, 3, 4})
	broken(2, 4, false, all, []int{0, 1, 2, 3, 5}, []int{0, 1, 3, 4})
	broken(2, 5, false, all, []int{0, 1, 2, 3, 5, 6}, []int{0, 1, 3, 5})
	broken(1, 6, false, all, []int{0, 1, 2, 3, 5, 6}, []int{0, 1, 3, 6})
	broken(0, 7, false, all, []int{7}, []int{7})
	broken(1, 7, false, nil, []int{7}, []int{7})
	broken(2, 7, false, nil, nil, []int{7})
}
