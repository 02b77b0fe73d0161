package region_test

import (
	"fmt"
	"slices"
	"strings"
	"testing"

	"loanword/api"
	"loanword/region"
)

// great is a unit whose graph 1 has so many lifetimes, references without a region in its locals, Borrows, and Calls of a graph with eight lifetimes.
func great(lives, references, borrows, calls int) api.Unit {
	locals := []string{"i64", "&'0 i64"}
	if lives == 0 {
		locals = []string{"i64", "&i64"}
		references--
	}
	for references > 0 {
		n := min(references, api.MaxNest-1)
		locals = append(locals, strings.TrimSuffix(strings.Repeat("& ", n), " ")+"i64")
		references -= n
	}
	points := []api.Point{goOn}
	for range borrows {
		points = append(points, borrow("_1", "_0"))
	}
	for range calls {
		points = append(points, call("_0", 2))
	}
	points = append(points, goBack)
	return unitOf(graphOf(lives, 0, strings.Join(locals, "; "), points...), graphOf(8, 0, "i64", goBack))
}

// P13.1: as many regions as may be, of all kinds.
func TestMostRegions(t *testing.T) {
	for _, x := range [][4]int{{0, 512, 0, 0}, {8, 504, 0, 0}, {8, 0, 256, 31}, {0, 256, 256, 0}, {8, 0, 0, 63}, {3, 100, 201, 26}, {8, 248, 256, 0}, {1, 255, 256, 0}, {0, 8, 0, 63}} {
		u := great(x[0], x[1], x[2], x[3])
		mustMay(t, u)
		r, e := region.Of(u, 1)
		if e != api.OK || r.Count != api.MaxRegions || r.Count != x[0]+x[1]+x[2]+8*x[3] {
			t.Fatalf("%v: %d, %v", x, r.Count, e)
		}
		p := plainOf(u, 1)
		if !slices.Equal(p.at, r.At) {
			t.Fatalf("%v: %v, want %v", x, r.At, p.at)
		}
		for n, s := range p.locals {
			if textOf(r.Locals[n]) != s {
				t.Fatalf("%v: local %d: %s, want %s", x, n, textOf(r.Locals[n]), s)
			}
		}
	}
}

// The last regions are told, too.
func TestLastRegions(t *testing.T) {
	u := great(8, 0, 256, 31)
	u.Fns[2] = graphOf(8, 1, "&'0 i64; &'7 i64", goBack)
	for q := range u.Fns[1].Points {
		if p := &u.Fns[1].Points[q]; p.Op == api.Call {
			p.To, p.Args = at("_1"), call("_0", 2, "_1").Args
		}
	}
	last := len(u.Fns[1].Points) - 2
	l, x, e := region.Called(u, 1, last)
	if s := textsOf(append(l, x)); e != api.OK || s != " &'511 i64; &'504 i64;" {
		t.Errorf("Called:%s %v", s, e)
	}
	x, e = region.Borrowed(u, 1, 256)
	mustType(t, "Borrowed", x, e, "&'263 i64")
}

// P13.1, P13.2: one region too many, or very many: ErrPoint, of each call, behind ErrArg and ahead of ErrOp.
func TestTooManyRegions(t *testing.T) {
	for _, x := range [][4]int{{0, 513, 0, 0}, {8, 505, 0, 0}, {8, 1, 256, 31}, {0, 257, 256, 0}, {8, 1, 0, 63}, {8, 0, 0, 64}, {3, 100, 202, 26}, {4, 101, 201, 26}, {0, 47 * 510, 256, 700}, {0, 1, 0, 1022}} {
		u := great(x[0], x[1], x[2], x[3])
		mustMay(t, u)
		what := fmt.Sprint(x)
		r, e := region.Of(u, 1)
		if e != api.ErrPoint || r.Count != 0 || r.Lives != 0 || r.Points != 0 || len(r.Locals) != 0 || len(r.At) != 0 {
			t.Fatalf("%s: %+v, %v", what, r, e)
		}
		y, e := region.Place(u, 1, at("_1"))
		mustNoType(t, what, y, e, api.ErrPoint)
		y, e = region.Place(u, 1, at("_0.*"))
		mustNoType(t, what, y, e, api.ErrArg)
		for q, p := range u.Fns[1].Points {
			if q%97 == 0 || p.Op == api.Return {
				mustNotBorrow(t, u, 1, q, api.ErrPoint)
				mustNotCall(t, u, 1, q, api.ErrPoint)
			}
		}
		for _, q := range []int{-1, len(u.Fns[1].Points)} {
			mustNotBorrow(t, u, 1, q, api.ErrArg)
			mustNotCall(t, u, 1, q, api.ErrArg)
		}
	}
}

// P13.1: how many regions another graph of the unit has is of no moment.
func TestOtherGraphsMayHaveMore(t *testing.T) {
	u := great(0, 600, 0, 0)
	u.Fns = append(u.Fns, graphOf(1, 1, "i64; &'0 i64", call("_0", 1), borrow("_1", "_0"), goBack))
	mustHave(t, u, 3, 2, []int{-1, 1, -1}, " i64; &'0 i64;")
	mustHave(t, u, 0, 0, []int{-1}, " i64;")
	l, x, e := region.Called(u, 3, 0)
	if s := textsOf(append(l, x)); e != api.OK || s != " i64;" {
		t.Errorf("Called:%s %v", s, e)
	}
	x, e = region.Borrowed(u, 3, 1)
	mustType(t, "Borrowed", x, e, "&'1 i64")
}

// Places of as many steps as may be, behind types as deep as may be.
func TestDeepPlaces(t *testing.T) {
	u := great(0, 100, 0, 0)
	x, e := region.Place(u, 1, at("_3.*.*.*.*.*.*.*.*"))
	text := ""
	for k := 56; k < 95; k++ {
		text += fmt.Sprintf("&'%d ", k)
	}
	mustType(t, "eight steps", x, e, text+"i64")
	x, e = region.Place(u, 1, api.Place{Local: 3, Path: slices.Repeat([]api.Step{api.Deref}, 9)})
	mustNoType(t, "nine steps", x, e, api.ErrArg)
}
