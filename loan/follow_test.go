package loan_test

import (
	"slices"
	"strings"
	"testing"

	"loanword/api"
	"loanword/bits"
	"loanword/flow"
	"loanword/live"
	"loanword/loan"
	"loanword/outlive"
	"loanword/place"
	"loanword/region"
	"loanword/types"
)

// mustHave asks that rows have all bits of others.
func mustHave(t *testing.T, u api.Unit, more, less []api.Row) {
	t.Helper()
	if len(more) != len(less) {
		t.Fatal(len(more), len(less))
	}
	for k, r := range less {
		if has, e := bits.Has(more[k], r); e != api.OK || !has {
			t.Fatalf("%s: loan %d: %v has not all of %v", textOf(u, 1), k, listsOf(more), listsOf(less))
		}
	}
}

func rangesBy(t *testing.T, u api.Unit, fn int, rows []api.Row) []api.Row {
	t.Helper()
	ranges, e := loan.Ranges(u, fn, rows)
	if e != api.OK {
		t.Fatal(e)
	}
	return ranges
}

func isBroken(t *testing.T, u api.Unit, fn int, ranges []api.Row) bool {
	t.Helper()
	_, _, ok, e := loan.Broken(u, fn, ranges)
	if e != api.OK {
		t.Fatal(e)
	}
	return !ok
}

// P16.5: of all ranges of small graphs with a loan those that are closed have all bits of the least ones, which are closed; some have more. What is broken in the least ones is broken in them.
func TestLeastOfAllRanges(t *testing.T) {
	met, more := 0, 0
	each(3, func(u api.Unit) {
		if l, _ := loan.Of(u, 1); len(l) != 1 {
			return
		}
		if met++; met%101 != 0 {
			return
		}
		sets(t, u, func(rows []api.Row) {
			least := rangesBy(t, u, 1, rows)
			mustClosed(t, u, 1, rows, least, 0, 0, true)
			for set := range uint64(8) {
				ranges := []api.Row{{Width: 3, Words: []uint64{set}}}
				_, _, ok, e := loan.Closed(u, 1, rows, ranges)
				if e != api.OK || !ok {
					continue
				}
				mustHave(t, u, ranges, least)
				if isBroken(t, u, 1, least) && !isBroken(t, u, 1, ranges) {
					t.Fatalf("%s: %v is broken, %v is not", textOf(u, 1), listsOf(least), listsOf(ranges))
				}
				if set != least[0].Words[0] {
					more++
				}
			}
		})
	})
	if more < 100 {
		t.Errorf("%d are closed and have more", more)
	}
}

// grown are ranges, with each bit that Closed finds wanting, one after the other.
func grown(t *testing.T, u api.Unit, rows, ranges []api.Row) []api.Row {
	t.Helper()
	ranges = slices.Clone(ranges)
	for {
		k, q, ok, e := loan.Closed(u, 1, rows, ranges)
		if e != api.OK || !ok && bits.Get(ranges[k], q) {
			t.Fatal(k, q, e)
		}
		if ok {
			return ranges
		}
		ranges[k], _ = bits.Set(ranges[k], q)
	}
}

// P16.5: ranges by chance that are grown till they are closed have all of the least ones; grown of none are these. With rows that have more they are no less. What is broken in the least ones is broken in all.
func TestLeastByChance(t *testing.T) {
	c := byChance(165)
	broken := 0
	for range 60 {
		u := c.unit(1 + c.Intn(20))
		r := regionsOf(t, u, 1)
		rows := c.rowsOf(r)
		least := rangesBy(t, u, 1, rows)
		mustHave(t, u, grown(t, u, rows, rangesOf(u, 1, make([][]int, len(least))...)), least)
		mustHave(t, u, least, grown(t, u, rows, rangesOf(u, 1, make([][]int, len(least))...)))
		more := grown(t, u, rows, c.rows(len(least), r.Points))
		mustHave(t, u, more, least)
		if isBroken(t, u, 1, least) {
			broken++
			if !isBroken(t, u, 1, more) {
				t.Fatalf("%s: %v is broken, %v is not", textOf(u, 1), listsOf(least), listsOf(more))
			}
		}
		greater := slices.Clone(rows)
		for k, x := range c.rows(r.Count, region.Width(r)) {
			greater[k], _ = bits.Or(rows[k], x)
		}
		mustHave(t, u, rangesBy(t, u, 1, greater), least)
	}
	if broken < 15 {
		t.Errorf("%d are broken", broken)
	}
}

// P16.2: other regions' rows, and the ends of lifetimes in a loan's own, change nothing.
func TestOtherRowsDoNotMatter(t *testing.T) {
	c := byChance(166)
	for range 40 {
		u := c.unit(1 + c.Intn(20))
		r := regionsOf(t, u, 1)
		rows, other := c.rowsOf(r), c.rowsOf(r)
		for q, p := range u.Fns[1].Points {
			if p.Op == api.Borrow {
				x, _ := bits.Clear(rows[r.At[q]], r.Points, r.Points+1)
				other[r.At[q]], _ = bits.Set(x, r.Points+c.Intn(2))
			}
		}
		mustRange(t, u, 1, other, listsOf(rangesBy(t, u, 1, rows))...)
	}
}

// P16.6: a loan is in force at its own point only if one comes round to it.
func TestOwnPoints(t *testing.T) {
	c := byChance(167)
	round, not := 0, 0
	for range 60 {
		u := c.unit(1 + c.Intn(12))
		l, e := loan.Of(u, 1)
		if e != api.OK {
			t.Fatal(e)
		}
		ranges := rangesBy(t, u, 1, rowsOf(t, u, 1))
		for k, x := range l {
			comes := false
			for _, q := range (ask(t, u, 1)).matter().next[x.At] {
				reached, _ := flow.Reach(u, 1, q)
				comes = comes || slices.Contains(reached, x.At)
			}
			if bits.Get(ranges[k], x.At) && !comes {
				t.Fatalf("%s: loan %d", textOf(u, 1), k)
			}
			if comes {
				round++
			} else {
				not++
			}
		}
	}
	if round < 20 || not < 20 {
		t.Errorf("%d, %d", round, not)
	}
}

// P16.4: what Why tells is a way (layer 12) from the loan's point, inside its range; there is one just where the loan is in force.
func TestWhyIsAWay(t *testing.T) {
	c := byChance(168)
	for range 30 {
		u := c.unit(1 + c.Intn(20))
		r := regionsOf(t, u, 1)
		rows := c.rowsOf(r)
		l, _ := loan.Of(u, 1)
		for k, in := range rangesBy(t, u, 1, rows) {
			for q := range r.Points {
				way, ok, e := loan.Why(u, 1, rows, k, q)
				if e != api.OK || ok != bits.Get(in, q) {
					t.Fatalf("%s: Why(%d, %d): %v, %v", textOf(u, 1), k, q, ok, e)
				}
				if !ok {
					continue
				}
				_, is, _ := flow.Is(u, 1, way...)
				out := slices.ContainsFunc(way[1:], func(p int) bool { return !bits.Get(in, p) })
				if !is || out || way[0] != l[k].At || way[len(way)-1] != q {
					t.Fatalf("%s: Why(%d, %d): %v", textOf(u, 1), k, q, way)
				}
			}
		}
	}
}

// placesOf are all places of a graph of up to so many steps.
func placesOf(u api.Unit, fn, most int) []api.Place {
	var l []api.Place
	for local := range u.Fns[fn].Locals {
		last := []api.Place{{Local: local}}
		for k := 0; len(last) > 0; k++ {
			l = append(l, last...)
			var longer []api.Place
			for _, p := range last {
				for step := api.Deref; k < most && step < 3; step++ {
					q := api.Place{Local: local, Path: append(slices.Clone(p.Path), step)}
					if place.May(structs, u.Fns[fn].Locals, q) {
						longer = append(longer, q)
					}
				}
			}
			last = longer
		}
	}
	return l
}

// P16.1, P16.6, P16.7: all places of up to three steps, and all accesses: against the oracle; what breaks a loan that does not write writes; of that place and of its prefixes all accesses break, if one writes, and what is deep of what it owns; what a depth breaks a wider one breaks.
func TestAllBreaks(t *testing.T) {
	u := scene("return")
	places := placesOf(u, 1, 3)
	for n, p := range places {
		if n%2 == 0 && len(p.Path) > 1 {
			continue
		}
		for _, mut := range []bool{false, true} {
			if mut && ask(t, u, 1).isShared(p) {
				continue
			}
			v := scene("return")
			lend(t, v, 1, place.Text(p), mut)
			x := ask(t, v, 1)
			l := x.loans()[0]
			for _, q := range places {
				if q.Local == p.Local || q.Local == p.Local+1 {
					mustBreakSo(x, l, q)
				}
			}
		}
	}
}

// mustBreakSo asks all accesses of a place.
func mustBreakSo(x asked, l api.Loan, q api.Place) {
	x.t.Helper()
	for _, write := range []bool{false, true} {
		narrower := false
		for d := api.Shallow; d <= api.Deep; d++ {
			a := api.Access{Place: q, Depth: d, Write: write}
			is := x.breaks(l, a)
			mustBreak(x.t, x.u, x.fn, 0, a, is)
			if is && !write && !l.Mut || narrower && !is {
				x.t.Fatalf("%s: %s", lent([]api.Loan{l}), said([]api.Access{a}))
			}
			owns, _ := place.Within(x.u.Structs, x.u.Fns[x.fn].Locals, q, l.Place, api.Dropping)
			if (write || l.Mut) && !is && (place.Prefix(l.Place, q) || d == api.Deep && owns) {
				x.t.Fatalf("%s: %s", lent([]api.Loan{l}), said([]api.Access{a}))
			}
			narrower = is
		}
	}
}

// leastRows are the least rows of a graph's regions that keep what live locals and constraints ask.
func leastRows(t *testing.T, u api.Unit, fn int) []api.Row {
	t.Helper()
	r := regionsOf(t, u, fn)
	var rows []api.Row
	for range r.Count {
		rows = append(rows, rowOf(region.Width(r)))
	}
	lives, e := live.Of(u, fn)
	l, f := outlive.Of(u, fn)
	if e != api.OK || f != api.OK {
		t.Fatal(e, f)
	}
	for local, x := range r.Locals {
		for _, k := range types.Regions(x) {
			rows[k], _ = bits.Set(rows[k], slices.Collect(bits.Each(lives[local]))...)
		}
	}
	for {
		which, bit, is, e := outlive.Closed(l, rows)
		if e != api.OK {
			t.Fatal(e)
		}
		if is {
			return rows
		}
		rows[l[which].Long], _ = bits.Set(rows[l[which].Long], bit)
	}
}

// P16.1 to P16.3: of DOC.md's examples, and others: which point breaks which loan.
func TestPrograms(t *testing.T) {
	for text, want := range map[string]string{
		"let x = 1; let r = &x; print(*r); return x;":                                                         "",
		"let x = 1; let r = &mut x; x = 2; *r = 3; return x;":                                                 "&mut _1 at: _1 = ",
		"let x = 1; let r = &mut x; *r = 3; x = 2; return x;":                                                 "",
		"let b = box(1); let r = &*b; b = box(2); return *r;":                                                 "& _2.* at: _2 = ",
		"let b = box(1); let r = &*b; let c = b; return *r;":                                                  "& _2.* at: _5 = move _2",
		"let b = box(1); let r = &*b; let y = *r; b = box(2); return y;":                                      "",
		"let c = true; let z = 0; let r = &z; while c { let y = 1; r = &y; } return *r;":                      "& _6 at: dead _6",
		"let c = true; let z = 0; let r = &z; while c { let y = 1; r = &y; c = *r == 1; r = &z; } return *r;": "",
		"let x = 1; let r = &mut x; let s = &mut *r; *r = 2; *s = 3; return x;":                               "&mut _3.* at: _3.* = 2",
		"let x = 1; let r = &mut x; let s = &mut *r; *s = 2; *r = 3; return x;":                               "",
		"let x = 1; let y = 2; let r = &mut x; let s = &*r; r = &mut y; *r = 3; return *s;":                   "",
		"let x = 1; let r = &x; let s = &x; print(x); return *r + *s;":                                        "",
		"let x = 1; let r = &x; let s = &mut x; *s = 2; return *r;":                                           "& _1 at: _",
	} {
		u := lowered(t, "fn main() -> i64 { "+text+" }")
		ranges := rangesBy(t, u, 0, leastRows(t, u, 0))
		k, q, ok, e := loan.Broken(u, 0, ranges)
		if e != api.OK {
			t.Fatal(e)
		}
		got := ""
		if !ok {
			l, _ := loan.Of(u, 0)
			word := map[bool]string{false: "&", true: "&mut"}[l[k].Mut]
			got = word + " " + place.Text(l[k].Place) + " at: " + ask(t, u, 0).texts[q]
		}
		if want == "" && got != "" || !strings.HasPrefix(got, want) {
			t.Errorf("%s: %q; want %q: %s", text, got, want, textOf(u, 0))
		}
	}
}
