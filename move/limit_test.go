package move_test

import (
	"fmt"
	"slices"
	"strings"
	"testing"

	"loanword/api"
	"loanword/move"
)

// repeat is a text so many times, with a sign between each two.
func repeat(s, sign string, n int) string {
	return strings.Join(slices.Repeat([]string{s}, n), sign)
}

// great is a unit whose graph 1 has so many locals, the last ones structs of which so many have a field that stands in a point.
func great(locals, fields int) api.Unit {
	l := slices.Concat(slices.Repeat([]string{"i64"}, locals-fields), slices.Repeat([]string{"#0"}, fields))
	var points []string
	for n := range fields {
		points = append(points, fmt.Sprintf("drop _%d.1", locals-1-n))
	}
	return unitOf(graphOf(0, 0, strings.Join(l, "; "), strings.Join(append(points, "return"), "; ")))
}

// P17.1 to P17.3: as many paths as may be, by locals alone and by fields.
func TestMostPaths(t *testing.T) {
	for _, x := range [][2]int{{256, 0}, {255, 1}, {200, 56}, {129, 127}} {
		u := great(x[0], x[1])
		mustMay(t, u)
		want := ""
		for n := range x[0] {
			want += fmt.Sprintf(" _%d", n)
			if n >= x[0]-x[1] {
				want += fmt.Sprintf(" _%d.1", n)
			}
		}
		mustPaths(t, u, 1, want[1:])
		mustStart(t, u, 1, count(0, 256)...)
		mustBehind(t, u, 1, x[1], count(0, 256), count(0, 256)...)
		if x[1] > 0 {
			mustBelow(t, u, 1, 254, 254, 255)
			mustDo(t, u, 1, 0, []int{255}, nil)
			mustBehind(t, u, 1, 0, count(0, 255), count(0, 256)...)
		}
		mustHold(t, u, 1, []int{1, 255})
	}
}

// P17.1 to P17.3: one path too many, or very many: ErrPoint, behind ErrArg of function and point, ahead of that of places, paths and lists.
func TestTooManyPaths(t *testing.T) {
	for _, x := range [][2]int{{257, 0}, {512, 0}, {256, 1}, {200, 57}, {255, 2}, {512, 512}} {
		u := great(x[0], x[1])
		mustMay(t, u)
		h := handed{fn: 1, place: placeOf("_1"), path: 3, gone: []int{0, 2}}
		mustAnswer(t, fmt.Sprint(x), u, h, "", api.ErrPoint)
		h.q = x[1]
		mustAnswer(t, fmt.Sprint(x), u, h, "", api.ErrPoint)
		for _, w := range wrongs(u, h) {
			names := w.names
			if !strings.HasPrefix(w.what, "function") && !strings.HasPrefix(w.what, "point") {
				names = ""
			}
			mustAnswer(t, fmt.Sprint(x, w.what), u, w.handed, names, api.ErrPoint)
		}
		u.Main = 3
		mustAnswer(t, fmt.Sprint(x), u, h, everything, api.ErrPoint)
	}
}

// P17.1: prefixes count, too: of places of many steps.
func TestPrefixesCount(t *testing.T) {
	const ofSteps = 8
	box := strings.Repeat("Box<", ofSteps) + "i64" + strings.Repeat(">", ofSteps)
	for n, e := range map[int]api.Errno{27: api.OK, 28: api.OK, 29: api.ErrPoint} { // one local more
		var l []string
		for k := range n {
			l = append(l, fmt.Sprintf("print copy _%d", k+1)+strings.Repeat(".*", ofSteps))
		}
		u := unitOf(graphOf(0, 0, "i64; "+repeat(box, "; ", n), strings.Join(l, "; ")+"; return"))
		mustMay(t, u)
		paths, got := move.Paths(u, 1)
		if got != e || e == api.OK && len(paths) != 1+9*n {
			t.Errorf("%d: %d, %v", n, len(paths), got)
		}
	}
	u := unitOf(graphOf(0, 0, "i64; "+box, "_1"+strings.Repeat(".*", 8)+" = 1; drop _1.*.*.*; return"))
	mustMay(t, u)
	mustPaths(t, u, 1, "_0 _1 _1.* _1.*.* _1.*.*.* _1.*.*.*.* _1.*.*.*.*.* _1.*.*.*.*.*.* _1.*.*.*.*.*.*.* _1.*.*.*.*.*.*.*.*")
	mustUse(t, u, 1, 0, count(1, 9)...)
	mustDo(t, u, 1, 0, nil, []int{9})
	mustDo(t, u, 1, 1, count(4, 10), nil)
	if n, e := move.Path(u, 1, api.Place{Local: 1, Path: slices.Repeat([]api.Step{api.Deref}, 9)}); n != 0 || e != api.ErrArg {
		t.Error(n, e)
	}
}

// P17.1: references are no paths' steps: there may be as many places as one likes behind them.
func TestPlacesBehindReferences(t *testing.T) {
	places := []string{"_1.*.0", "_1.*.1", "_1.*.2", "_1.*.3", "_1.*.4", "_1.*.5", "_1.*.6", "_1.*.7"}
	g := graphOf(0, 0, "i64; &mut #0; &mut #1", "return")
	g.Points = nil
	for n := range 1023 {
		g.Points = append(g.Points, pointOf(places[n%8]+" = copy "+places[n*5%7], n))
	}
	g.Points = append(g.Points, api.Point{Op: api.Return})
	u := unitOf(g)
	u.Structs = []api.Struct{structOf(slices.Repeat([]string{"i64"}, 8)...), structOf("Box<i64>")}
	mustMay(t, u)
	mustPaths(t, u, 1, "_0 _1 _2")
	mustUse(t, u, 1, 1000, 1)
	mustDo(t, u, 1, 1000, nil, nil)
}

// P17.1: how many paths another graph of the unit has is of no moment.
func TestOtherGraphsMayHaveMore(t *testing.T) {
	u := great(512, 0)
	u.Fns = append(u.Fns, graphOf(0, 1, "i64; #0", "drop _1.1; return"))
	mustMay(t, u)
	mustPaths(t, u, 2, "_0 _1 _1.1")
	mustStart(t, u, 2, 0)
	mustPaths(t, u, 0, "_0")
}

// P17.1 to P17.3: a great unit, all graphs of which are as large as may be, is asked as a whole once, not once a point, an operand, a path.
func TestGreatUnit(t *testing.T) {
	g := graphOf(0, 8, "i64"+strings.Repeat("; #0", 8)+strings.Repeat("; Box<i64>", 150), repeat("_0 = f1(move _1, move _2, move _3, move _4, move _5, move _6, move _7, move _8)", "; ", 512)+"; "+repeat("_9 = move _1.1; print copy _8.1.*", "; ", 255)+"; drop _158; return")
	u := unitOf(slices.Repeat([]api.Graph{g}, api.MaxItems-1)...)
	mustMay(t, u)
	if len(u.Fns[31].Points) != api.MaxPoints {
		t.Fatal(len(u.Fns[31].Points))
	}
	paths := pathsOf(t, u, 31)
	if len(paths) != 159+3 {
		t.Fatal(paths)
	}
	all := append([]int{}, count(1, 12)...)
	mustUse(t, u, 31, 3, all...)
	mustDo(t, u, 31, 3, all, []int{0})
	mustAgain(t, u, 31, 3, -1)
	mustBehind(t, u, 31, 1022, count(0, 100), append(count(0, 100), 161)...)
	mustBelow(t, u, 31, 9, 9, 10, 11)
	mustStart(t, u, 31, append([]int{0}, count(12, 162)...)...)
	mustPath(t, u, 31, placeOf("_8.1.*"), 11)
}

// P17.1: as many places as there can be, all others; too many paths, and told as soon.
func TestManyPlaces(t *testing.T) {
	var l []string
	for n := range 1023 {
		var args []string
		for k := range 8 {
			args = append(args, fmt.Sprintf("copy _%d.%d.%d", 1+(n*8+k)%511, k, n%8))
		}
		l = append(l, fmt.Sprintf("_%d.%d = f2(%s)", 1+n%511, n%7, strings.Join(args, ", ")))
	}
	u := unitOf(graphOf(0, 0, "i64"+strings.Repeat("; #1", 511), strings.Join(l, "; ")+"; return"), graphOf(0, 8, "#0"+strings.Repeat("; i64", 8), "return"))
	u.Structs = []api.Struct{structOf(slices.Repeat([]string{"i64"}, 2)...), structOf(slices.Repeat([]string{"#0"}, 8)...)}
	for q := range u.Fns[1].Points {
		for k, o := range u.Fns[1].Points[q].Args {
			u.Fns[1].Points[q].Args[k].Place.Path[1] = o.Place.Path[1] % 2
		}
	}
	mustMay(t, u)
	h := handed{fn: 1, place: placeOf("_1"), path: 3}
	mustAnswer(t, "many places", u, h, "", api.ErrPoint)
}
