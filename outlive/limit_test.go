package outlive_test

import (
	"fmt"
	"slices"
	"strings"
	"testing"

	"loanword/api"
	"loanword/outlive"
)

// repeat is a text so many times, with a sign between each two.
func repeat(s, sign string, n int) string {
	return strings.Join(slices.Repeat([]string{s}, n), sign)
}

// great is a unit whose graph 1 has so many references of its own in its locals, Borrows, and Calls of a graph with eight lifetimes.
func great(references, borrows, calls int) api.Unit {
	points := slices.Concat(slices.Repeat([]string{"_1 = & _0"}, borrows), slices.Repeat([]string{"_1 = f2(copy _1)"}, calls), []string{"return"})
	return unitOf(graphOf(0, 0, "i64"+strings.Repeat("; &i64", references), strings.Join(points, "; ")), graphOf(8, 1, "&'7 i64; &'0 i64", "return"))
}

// P15.1: as many regions as may be: the last ones are told, too.
func TestMostRegions(t *testing.T) {
	u := great(256, 256, 0)
	mustMay(t, u)
	want := ""
	for k := range 256 {
		want += fmt.Sprintf(" %d:0", 256+k)
	}
	mustOf(t, u, 1, want[1:])
	mustAt(t, u, 1, 255, "511:0")
	u = great(24, 0, 61)
	mustMay(t, u)
	mustAt(t, u, 1, 60, "0:504 511:0")
	mustHold(t, u, 1)
}

// P15.1: one region too many, or very many: ErrPoint, behind ErrArg.
func TestTooManyRegions(t *testing.T) {
	for _, x := range [][3]int{{257, 256, 0}, {25, 0, 61}, {24, 1, 61}, {500, 256, 700}, {1, 0, 1023}} {
		u := great(x[0], x[1], x[2])
		mustMay(t, u)
		mustAnswer(t, fmt.Sprint(x), u, 1, 0, api.ErrPoint)
		mustAnswer(t, fmt.Sprint(x), u, 1, len(u.Fns[1].Points)-1, api.ErrPoint)
		for _, q := range []int{-1, len(u.Fns[1].Points), api.MaxPoints} {
			if l, e := outlive.At(u, 1, q); len(l) != 0 || e != api.ErrArg {
				t.Fatalf("%v: At(%d): %s, %v", x, q, said(l), e)
			}
		}
		u.Main = 3
		mustAnswer(t, fmt.Sprint(x), u, 1, 0, api.ErrArg)
		u.Main = 1
		mustAnswer(t, fmt.Sprint(x), u, 1, 0, api.ErrPoint)
	}
}

// P15.1: how many regions another graph of the unit has is of no moment.
func TestOtherGraphsMayHaveMore(t *testing.T) {
	u := great(500, 256, 0)
	u.Fns = append(u.Fns, graphOf(1, 1, "&'0 i64; &'0 i64; i64", "_0 = & _2; _1 = copy _0; return"))
	mustMay(t, u)
	mustAnswer(t, "the great one", u, 1, 0, api.ErrPoint)
	mustOf(t, u, 3, "1:0")
	mustAt(t, u, 3, 1, "0:0")
	mustOf(t, u, 0, "")
}

// P15.1: as deep types as there is room for, again and again: a graph tells each constraint once, and soon.
func TestMostConstraints(t *testing.T) {
	const depth = 46
	life, bare := "i64", "i64"
	for k := range depth {
		life, bare = fmt.Sprintf("&'%d mut ", min(k, 7))+life, "&mut "+bare
	}
	called := graphOf(8, 8, repeat(life, "; ", 9), "return")
	for long := range 8 {
		for short := range 8 {
			if long != short {
				called.Outlives = append(called.Outlives, api.Outlives{Long: long, Short: short})
			}
		}
	}
	call := "_9 = f2(move _1, move _2, move _3, move _4, move _5, move _6, move _7, move _8)"
	u := unitOf(graphOf(0, 0, "i64; "+repeat(bare, "; ", 9), repeat(call, "; ", 12)+repeat("; _9 = move _8; _1 = move _9", "", 505)+"; return"), called)
	mustMay(t, u)
	var all []api.Constraint
	for q := range 14 { // what comes behind is said by the points 12 and 13
		l := asked{t, u, 1}.at(q)
		mustAt(t, u, 1, q, said(l))
		all = append(all, l...)
	}
	if l := mustOf(t, u, 1, said(once(all))); len(l) < 12*9*depth {
		t.Errorf("%d constraints", len(l))
	}
}

// P15.1: a great unit, all graphs of which are as large as may be, is asked as a whole once, not once a point.
func TestGreatUnit(t *testing.T) {
	g := graphOf(1, 2, "&'0 i64; &'0 i64; &'0 i64"+strings.Repeat("; &i64", 400), repeat("_3 = copy _4", "; ", 500)+"; "+repeat("_0 = copy _1", "; ", 523)+"; return")
	for q := range 60 {
		g.Points[q] = pointOf("_0 = f5(copy _1, copy _402)", q)
	}
	u := unitOf(slices.Repeat([]api.Graph{g}, api.MaxItems-1)...)
	mustMay(t, u)
	want := ""
	for q := range 60 {
		want += fmt.Sprintf(" 0:%d 400:%d %d:0", 401+q, 401+q, 401+q)
	}
	mustOf(t, u, 31, want[1:]+" 2:1")
}

// P15.3: as many constraints and regions as one likes: a chain that From goes up in whichever order it stands, and rows that are wide.
func TestLongChains(t *testing.T) {
	var up []api.Constraint
	for k := range api.MaxRegions - 1 {
		up = append(up, api.Constraint{Long: k + 1, Short: k})
	}
	down := slices.Clone(up)
	slices.Reverse(down)
	for _, l := range [][]api.Constraint{up, down, slices.Repeat(up, 500)} {
		for _, k := range []int{0, 1, 100, 510, 511} {
			want := []int{}
			for r := k; r < api.MaxRegions; r++ {
				want = append(want, r)
			}
			mustFrom(t, l, api.MaxRegions, k, want...)
		}
	}
	const width = api.MaxPoints + api.MaxLives
	rows := slices.Repeat([]api.Row{rowOf(strings.Repeat("1", width))}, api.MaxRegions)
	mustClosed(t, slices.Repeat(up, 100), rows, 0, 0, true)
	rows[300] = rowOf(strings.Repeat("1", width-1) + "0")
	mustClosed(t, up, rows, 299, width-1, false)
	mustClosed(t, down, rows, 511-300, width-1, false)
	rows[0] = rowOf(strings.Repeat("0", width))
	mustClosed(t, up, rows, 299, width-1, false)
}

// P15.3: rows may be more than regions are.
func TestMoreRowsThanRegions(t *testing.T) {
	rows := slices.Repeat([]api.Row{rowOf("1")}, 2000)
	mustClosed(t, listed("1999:0 0:1999"), rows, 0, 0, true)
	rows[1999] = rowOf("0")
	mustClosed(t, listed("1:1999 1999:0"), rows, 1, 0, false)
	mustNotClose(t, "one behind the last", listed("2000:0"), rows)
}

// P15.1: places of as many steps as may be.
func TestLongPlaces(t *testing.T) {
	u := unitOf(graphOf(0, 0, "i64; &"+strings.Repeat("mut &", 7)+"mut i64; &i64; &mut i64", "_2 = & _1"+strings.Repeat(".*", 8)+"; _3 = &mut _1"+strings.Repeat(".*", 8)+"; _2 = & _1.*.*.*.*.*.*.*.*; return"))
	if len(u.Fns[1].Points[0].From.Path) != api.MaxSteps {
		t.Fatal("too few steps")
	}
	mustMay(t, u)
	mustAt(t, u, 1, 0, "10:8 7:10 6:10 5:10 4:10 3:10 2:10 1:10 0:10")
	mustAt(t, u, 1, 1, "11:9 7:11 6:11 5:11 4:11 3:11 2:11 1:11 0:11")
}
