package loan_test

import (
	"fmt"
	"slices"
	"strings"
	"testing"

	"loanword/api"
	"loanword/loan"
)

// repeat is a text so many times, with a sign between each two.
func repeat(s, sign string, n int) string {
	return strings.Join(slices.Repeat([]string{s}, n), sign)
}

// great is a unit whose graph 1 has a lifetime, a reference with that, so many of its own in its locals, Borrows, and Calls of a graph with eight lifetimes.
func great(references, borrows, calls int) api.Unit {
	points := slices.Concat(slices.Repeat([]string{"_1 = & _0"}, borrows), slices.Repeat([]string{"_1 = f2(copy _1)"}, calls), []string{"return"})
	return unitOf(graphOf(1, 0, "i64"+strings.Repeat("; &i64", references)+"; Box<&'0 i64>", strings.Join(points, "; ")), graphOf(8, 1, "&'7 i64; &'0 i64", "return"))
}

// P16.1 to P16.4: as many loans and regions as may be.
func TestMostLoans(t *testing.T) {
	u := great(255, 256, 0)
	mustMay(t, u)
	want, points := "", [][]int{}
	for k := range 256 {
		want += fmt.Sprintf(", %d & _0 '%d", k, 256+k)
		points = append(points, count(k+1, 257))
	}
	mustOf(t, u, 1, want[2:])
	mustKill(t, u, 1, 255)
	rows := rowsOf(t, u, 1)
	ranges := mustRange(t, u, 1, rows, points...)
	mustClosed(t, u, 1, rows, ranges, 0, 0, true)
	mustBroken(t, u, 1, ranges, 0, 256, false)
	mustWhy(t, u, 1, rows, 255, 256, 255, 256)
	mustWhy(t, u, 1, rows, 0, 256, count(0, 257)...)
	none := rowsOf(t, u, 1, make([][]int, 256)...)
	mustRange(t, u, 1, none, make([][]int, 256)...)
	ranges[255] = rowOf(257)
	mustClosed(t, u, 1, rows, ranges, 255, 256, false)
	mustClosed(t, u, 1, none, ranges, 0, 0, true)
	mustBreak(t, u, 1, 255, accessOf("_0 shallow written"), true)
}

// P16.1 to P16.4: one region too many, or very many: ErrPoint, behind ErrArg: how many rows there must be is asked ahead of there being too many regions.
func TestTooManyRegions(t *testing.T) {
	for _, x := range [][4]int{{256, 256, 0, 513}, {23, 1, 61, 513}, {500, 256, 700, 6357}, {1, 1, 1022, 8179}} {
		u := great(x[0], x[1], x[2])
		mustMay(t, u)
		points := len(u.Fns[1].Points)
		h := handed{fn: 1, look: accessOf("_1 deep read"), rows: slices.Repeat([]api.Row{rowOf(points + 1)}, x[3]), ranges: slices.Repeat([]api.Row{rowOf(points)}, x[1])}
		mustAnswer(t, fmt.Sprint(x), u, h, "", api.ErrPoint)
		h.q, h.loan = points-1, x[1]-1
		mustAnswer(t, fmt.Sprint(x), u, h, "", api.ErrPoint)
		if points < 300 {
			for _, w := range wrongs(u, h) {
				mustAnswer(t, fmt.Sprint(x, w.what), u, w.handed, w.names, api.ErrPoint)
			}
		}
		for _, more := range []int{-1, 1} {
			y := h
			y.rows = slices.Repeat(h.rows[:1], x[3]+more)
			mustAnswer(t, fmt.Sprint(x, more), u, y, "Ranges Closed Why", api.ErrPoint)
		}
		u.Main = 1 // it has a lifetime
		mustAnswer(t, fmt.Sprint(x), u, h, everything, api.ErrPoint)
	}
}

// P16.1 to P16.4: likewise of a graph without loans: then none is one of them.
func TestTooManyRegionsWithoutLoans(t *testing.T) {
	u := great(504, 0, 1)
	mustMay(t, u)
	h := handed{fn: 1, look: accessOf("_1 deep read"), rows: slices.Repeat([]api.Row{rowOf(3)}, 513)}
	mustAnswer(t, "no loans", u, h, "Breaks Why", api.ErrPoint)
	u = great(503, 0, 1)
	h.rows = h.rows[1:]
	mustAnswer(t, "no loans, regions enough", u, h, "Breaks Why", api.OK)
}

// P16.1: how many regions another graph of the unit has is of no moment.
func TestOtherGraphsMayHaveMore(t *testing.T) {
	u := great(500, 256, 0)
	u.Fns = append(u.Fns, graphOf(1, 1, "&'0 i64; &'0 i64; i64", "_0 = & _2; _1 = copy _0; return"))
	mustMay(t, u)
	mustOf(t, u, 3, "0 & _2 '1")
	mustRange(t, u, 3, rowsOf(t, u, 3, []int{1}), []int{1})
	mustOf(t, u, 0, "")
}

// P16.1 to P16.4: a great unit, all graphs of which are as large as may be, is asked as a whole once, not once a point, a loan, an access.
func TestGreatUnit(t *testing.T) {
	g := graphOf(1, 2, "&'0 i64; &'0 i64; &'0 i64"+strings.Repeat("; &i64; Box<i64>", 250), repeat("_3 = & _4.*", "; ", 200)+"; "+repeat("_0 = copy _1", "; ", 823)+"; return")
	g.Points[1022].Next = 0
	u := unitOf(slices.Repeat([]api.Graph{g}, api.MaxItems-1)...)
	mustMay(t, u)
	rows := rowsOf(t, u, 31)
	ranges := mustRange(t, u, 31, rows, slices.Repeat([][]int{count(0, 1023)}, 200)...)
	mustClosed(t, u, 31, rows, ranges, 0, 0, true)
	mustBroken(t, u, 31, ranges, 0, 0, true)
	mustWhy(t, u, 31, rows, 199, 1022, count(199, 1023)...)
	mustWhy(t, u, 31, rows, 199, 198, append(count(199, 1023), count(0, 199)...)...)
	mustLook(t, u, 31, 5, "_4.* deep read, _3 shallow written")
}

// P16.3: many Returns, each of which looks at many locals while many loans are in force that it does not break.
func TestManyReturns(t *testing.T) {
	u := unitOf(graphOf(1, 0, "i64"+strings.Repeat("; &i64", 256)+strings.Repeat("; i64", 254), repeat("_1 = & _256.*", "; ", 255)+"; "+repeat("return", "; ", 768)))
	mustMay(t, u)
	ranges := slices.Repeat([]api.Row{full(1023)}, 255)
	mustBroken(t, u, 1, ranges, 0, 0, true)
	u.Fns[1].Points[254].From = placeOf("_510")
	mustMay(t, u)
	mustBroken(t, u, 1, ranges, 254, 255, false)
	ranges[254] = rowOf(1023, 1022)
	mustBroken(t, u, 1, ranges, 254, 1022, false)
}

// P16.1: places of as many steps as may be.
func TestLongPlaces(t *testing.T) {
	steps := strings.Repeat(".*", 8)
	u := unitOf(graphOf(0, 0, "i64; &"+strings.Repeat("mut &", 7)+"mut i64; &i64; &mut i64; "+strings.Repeat("Box<", 8)+"i64"+strings.Repeat(">", 8), "_2 = & _1"+steps+"; _3 = &mut _1"+steps+"; _2 = & _4"+steps+"; _1"+steps+" = 1; return"))
	if len(u.Fns[1].Points[0].From.Path) != api.MaxSteps {
		t.Fatal("too few steps")
	}
	mustMay(t, u)
	mustOf(t, u, 1, "0 & _1"+steps+" '10, 1 &mut _1"+steps+" '11, 2 & _4"+steps+" '12")
	mustLook(t, u, 1, 1, "_1"+steps+" deep written, _3 shallow written")
	mustKill(t, u, 1, 3, 0, 1)
	for _, d := range []api.Depth{api.Shallow, api.Dropping, api.Deep} {
		mustBreak(t, u, 1, 0, api.Access{Depth: d, Write: true, Place: placeOf("_1")}, d == api.Deep)
		mustBreak(t, u, 1, 1, api.Access{Depth: d, Place: placeOf("_1" + steps)}, true)
		mustBreak(t, u, 1, 2, api.Access{Depth: d, Write: true, Place: placeOf("_4")}, d != api.Shallow)
	}
	if is, e := loan.Breaks(u, 1, 0, api.Access{Depth: api.Deep, Place: api.Place{Local: 1, Path: slices.Repeat([]api.Step{api.Deref}, 9)}}); is || e != api.ErrArg {
		t.Error(is, e)
	}
}

// P16.2, P16.3: rows of as many points as may be, and of as many as one, two words have, of one more or less: round and round.
func TestWidths(t *testing.T) {
	for _, n := range []int{2, 3, 63, 64, 65, 127, 128, 129, 1023, 1024} {
		u := unitOf(graphOf(1, 0, "i64; &i64; bool", "_1 = & _0"+strings.Repeat("; goto", n-1)))
		u.Fns[1].Points[n-1] = pointOf("_2 = true -> 0", n-1)
		mustMay(t, u)
		rows := rowsOf(t, u, 1)
		ranges := mustRange(t, u, 1, rows, count(0, n))
		mustClosed(t, u, 1, rows, ranges, 0, 0, true)
		mustBroken(t, u, 1, ranges, 0, 0, true)
		mustClosed(t, u, 1, rows, rangesOf(u, 1, count(0, n-1)), 0, n-1, false)
		mustRange(t, u, 1, rowsOf(t, u, 1, count(0, n-1)), count(1, n-1))
		mustWhy(t, u, 1, rows, 0, n-1, count(0, n)...)
		u.Fns[1].Points[n-1] = pointOf("_0 = 1 -> 0", n-1)
		mustRange(t, u, 1, rows, count(1, n))
		mustBroken(t, u, 1, ranges, 0, n-1, false)
	}
}
