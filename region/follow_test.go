package region_test

import (
	"fmt"
	"testing"

	"loanword/api"
	"loanword/graph"
	"loanword/region"
	"loanword/types"
)

// program has references of all kinds in locals, lent and called.
const program = "struct P { a: i64, b: Box<i64> } struct Q { p: P, t: bool } " +
	"fn main() -> i64 { let p = P { a: read(), b: box(2) }; let r = &mut p; let s = &mut *r; (*s).a = 4; let q = Q { p: P { a: 1, b: box(3) }, t: true }; let w = &q.p; let v = &w; " +
	"let b = box(&q); let c = box(&mut p); let i = 0; while i < 3 { i = i + 1; let z = pick(&(**v).a, &(**b).p.a, q.t); print(*z); swap(&mut *c); } h(v, w); return k(&q, &i); } " +
	"fn pick<'a, 'b: 'a>(x: &'a i64, y: &'b i64, t: bool) -> &'a i64 { if t { return x; } let z = &*y; return z; } " +
	"fn swap(x: &mut &mut P) -> i64 { let y = &mut (**x).b; **y = 5; return swap(x); } " +
	"fn h<'a, 'b>(x: &'a &'b P, y: &'b P) -> &'a P { let z = h(x, y); let u = &z; return *x; } " +
	"fn k<'x>(q: &Q, i: &'x i64) -> i64 { let e = box(i); let f = &e; let g = &**f; return **g; }"

// eachGraph tells graphs of which what follows is asked: a program's, and by chance.
func eachGraph(t *testing.T, tell func(u api.Unit, fn int)) {
	t.Helper()
	units := []api.Unit{lowered(t, program), example()}
	c := byChance(132)
	for range 150 {
		units = append(units, c.unit())
	}
	for _, u := range units {
		for fn := range u.Fns {
			tell(u, fn)
		}
	}
}

// P13.4: each region but the lifetimes stands in just one place, and all up to Count do.
func TestEachRegionStandsOnce(t *testing.T) {
	eachGraph(t, func(u api.Unit, fn int) {
		r, e := region.Of(u, fn)
		if e != api.OK {
			t.Fatal(e)
		}
		stands := map[int]int{}
		for n, x := range r.Locals {
			bare := types.Regions(u.Fns[fn].Locals[n])
			for i, k := range types.Regions(x) {
				if bare[i] >= 0 && bare[i] != k || bare[i] < 0 && k < r.Lives {
					t.Fatalf("local %d: %s of %s", n, textOf(x), textOf(u.Fns[fn].Locals[n]))
				}
				if k >= r.Lives {
					stands[k]++
				}
			}
		}
		for q, p := range u.Fns[fn].Points {
			makes := 0
			switch p.Op {
			case api.Borrow:
				makes = 1
			case api.Call:
				makes = u.Fns[p.Fn].Lives
			}
			if (r.At[q] < 0) != (makes == 0) {
				t.Fatalf("point %d: %d", q, r.At[q])
			}
			for k := range makes {
				stands[r.At[q]+k]++
			}
		}
		for k := r.Lives; k < r.Count; k++ {
			if stands[k] != 1 {
				t.Fatalf("the region %d stands in %d places", k, stands[k])
			}
			delete(stands, k)
		}
		if len(stands) != 0 {
			t.Fatalf("regions beyond: %v", stands)
		}
	})
}

// P13.4: what Count is.
func TestCountIsTheSum(t *testing.T) {
	eachGraph(t, func(u api.Unit, fn int) {
		g := u.Fns[fn]
		want := g.Lives
		for _, x := range g.Locals {
			for _, k := range types.Regions(x) {
				if k == -1 {
					want++
				}
			}
		}
		for _, p := range g.Points {
			if p.Op == api.Borrow {
				want++
			}
			if p.Op == api.Call {
				want += u.Fns[p.Fn].Lives
			}
		}
		if r, e := region.Of(u, fn); e != api.OK || r.Count != want {
			t.Fatalf("%d, %v; want %d", r.Count, e, want)
		}
	})
}

// erased asks for a type, and answers its text without its regions.
func erased(t *testing.T, x api.Type, e api.Errno) string {
	t.Helper()
	if e != api.OK {
		t.Fatal(e)
	}
	x, e = region.Erase(x)
	if e != api.OK {
		t.Fatal(e)
	}
	for _, k := range types.Regions(x) {
		if k != -1 {
			t.Fatalf("erased: %s", textOf(x))
		}
	}
	return textOf(x)
}

// P13.5: a place's type, erased, is the place's type in the graph, erased.
func TestErasedPlaces(t *testing.T) {
	eachGraph(t, func(u api.Unit, fn int) {
		for _, p := range placesOf(u, fn, 2) {
			x, e := region.Place(u, fn, p)
			y, f := graph.Type(u, fn, p)
			if a, b := erased(t, x, e), erased(t, y, f); a != b {
				t.Fatalf("%v: %s, in the graph %s", p, a, b)
			}
		}
	})
}

// laid is what a point lays, without its regions; none of one that is no Use of a place, no Borrow, no Call. It asks of a Call's operands whether they have the parameters' types.
func laid(t *testing.T, u api.Unit, fn, q int) string {
	t.Helper()
	switch p := u.Fns[fn].Points[q]; {
	case p.Op == api.Use && (p.A.Kind == api.Copy || p.A.Kind == api.Move):
		x, e := region.Place(u, fn, p.A.Place)
		return erased(t, x, e)
	case p.Op == api.Borrow:
		x, e := region.Borrowed(u, fn, q)
		return erased(t, x, e)
	case p.Op == api.Call:
		l, x, e := region.Called(u, fn, q)
		for i, o := range p.Args {
			if o.Kind != api.Copy && o.Kind != api.Move {
				continue
			}
			y, f := region.Place(u, fn, o.Place)
			if a, b := erased(t, l[i], api.OK), erased(t, y, f); a != b {
				t.Fatalf("parameter %d: %s, handed in %s", i, a, b)
			}
		}
		return erased(t, x, e)
	}
	return ""
}

// P13.5: a Use, a Borrow, a Call lays what, erased, has the erased type of To.
func TestErasedLaid(t *testing.T) {
	met := map[api.PointOp]int{}
	eachGraph(t, func(u api.Unit, fn int) {
		for q, p := range u.Fns[fn].Points {
			what := laid(t, u, fn, q)
			if what == "" {
				continue
			}
			to, e := region.Place(u, fn, p.To)
			if want := erased(t, to, e); what != want {
				t.Fatalf("point %d lays %s where %s is asked", q, what, want)
			}
			met[p.Op]++
		}
	})
	if met[api.Use] < 50 || met[api.Borrow] < 50 || met[api.Call] < 50 {
		t.Error(met)
	}
}

// What Borrowed answers is a reference of the Borrow's region to what Place answers of From; what Called answers is Turn of the called graph's types.
func TestMadeOfOneAnother(t *testing.T) {
	eachGraph(t, func(u api.Unit, fn int) {
		r, _ := region.Of(u, fn)
		for q, p := range u.Fns[fn].Points {
			switch p.Op {
			case api.Borrow:
				x, _ := region.Borrowed(u, fn, q)
				from, _ := region.Place(u, fn, p.From)
				if x.Region != r.At[q] || x.Mut != p.Mut || !types.Same(x.Of[0], from) {
					t.Fatalf("%s of %s, region %d", textOf(x), textOf(from), r.At[q])
				}
			case api.Call:
				l, x, _ := region.Called(u, fn, q)
				var regions []int
				for k := range u.Fns[p.Fn].Lives {
					regions = append(regions, r.At[q]+k)
				}
				for i, got := range append([]api.Type{x}, l...) {
					want, e := region.Turn(u.Fns[p.Fn].Locals[i], regions)
					if e != api.OK || !types.Same(got, want) {
						t.Fatalf("%d: %s, turned %s, %v", i, textOf(got), textOf(want), e)
					}
				}
			}
		}
	})
}

// P13.1: the program's graphs, against the oracle.
func TestProgramHolds(t *testing.T) {
	u := lowered(t, program)
	for fn := range u.Fns {
		mustHold(t, u, fn, placesOf(u, fn, 3))
	}
	if s := fmt.Sprint(len(u.Fns)); s != "5" {
		t.Error(s)
	}
}
