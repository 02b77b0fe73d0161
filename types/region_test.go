package types_test

import (
	"math"
	"slices"
	"testing"

	"loanword/api"
	"loanword/types"
)

// P6.3: the chapter's examples.
func TestNumberExamples(t *testing.T) {
	x := read(t, "&'3 mut Box<&'1 i64>")
	got, next, e := types.Number(x, 5)
	mustBe(t, "Number", got, e, read(t, "&'5 mut Box<&'6 i64>"))
	if next != 7 {
		t.Errorf("the next number: %d", next)
	}
	got, e = types.Anew(x, 7, 8)
	mustBe(t, "Anew", got, e, read(t, "&'7 mut Box<&'8 i64>"))
	got, e = types.Anew(x, 7)
	mustRefuse(t, "Anew of one too few", got, e)
}

// P6.3: Number, from each edge.
func TestNumber(t *testing.T) {
	all := append(allChains(4, -1, 3), deepest(api.MaxNest)...)
	for _, c := range all {
		given := whole(c)
		for _, n := range []int{0, 1, 100, api.MaxRegions - 1, api.MaxRegions} {
			got, next, e := types.Number(given, n)
			mustBe(t, "Number", got, e, whole(with(c, from(n))))
			if next != n+len(plainRegions(c)) {
				t.Fatalf("Number(%v, %d): next %d", c, n, next)
			}
			scratch(got)
			mustBe(t, "what Number was handed", given, api.OK, whole(c))
		}
		for _, n := range []int{-1, api.MaxRegions + 1, math.MaxInt, math.MinInt} {
			mustNotNumber(t, given, n)
		}
	}
	for _, x := range wrongTypes() {
		mustNotNumber(t, x, 0)
	}
}

func mustNotNumber(t *testing.T, x api.Type, n int) {
	t.Helper()
	got, next, e := types.Number(x, n)
	mustRefuse(t, "Number", got, e)
	if next != 0 {
		t.Fatalf("Number(%v, %d): next %d", x, n, next)
	}
}

// P6.3: Anew, with as many regions, one too few, one too many, one that is none.
func TestAnew(t *testing.T) {
	c := byChance(65)
	all := append(allChains(4, -1, 3), deepest(api.MaxNest)...)
	for _, x := range all {
		given := whole(x)
		y := with(x, c.region)
		regions := plainRegions(y)
		was := slices.Clone(regions)
		got, e := types.Anew(given, regions...)
		mustBe(t, "Anew", got, e, whole(y))
		scratch(got)
		mustBe(t, "what Anew was handed", given, api.OK, whole(x))
		if !slices.Equal(regions, was) {
			t.Fatalf("the regions that Anew was handed: %v", regions)
		}
		mustNotAnew(t, given, append(slices.Clone(regions), 0)...)
		mustNotAnew(t, given, append(slices.Clone(regions), repeat(1, 100)...)...)
		for i := range regions {
			mustNotAnew(t, given, regions[:i]...)
			for _, wrong := range []int{-2, math.MinInt} {
				l := slices.Clone(regions)
				l[i] = wrong
				mustNotAnew(t, given, l...)
			}
		}
	}
	for _, x := range wrongTypes() {
		mustNotAnew(t, x)
		mustNotAnew(t, x, 0)
		mustNotAnew(t, x, repeat(0, api.MaxNest)...)
	}
}

func mustNotAnew(t *testing.T, x api.Type, regions ...int) {
	t.Helper()
	got, e := types.Anew(x, regions...)
	mustRefuse(t, "Anew", got, e)
}

// P6.4: the chapter's examples, and some more.
func TestAsksExamples(t *testing.T) {
	for _, c := range []struct {
		a, b string
		want []api.Constraint
	}{
		{"&'0 &'1 i64", "&'2 &'3 i64", []api.Constraint{{Long: 0, Short: 2}, {Long: 1, Short: 3}}},
		{"&'0 mut &'1 i64", "&'2 mut &'3 i64", []api.Constraint{{Long: 0, Short: 2}, {Long: 1, Short: 3}, {Long: 3, Short: 1}}},
		{"Box<&'0 i64>", "Box<&'1 i64>", []api.Constraint{{Long: 0, Short: 1}}},
		{"i64", "i64", nil},
		{"#4", "#4", nil},
		{"Box<Box<bool>>", "Box<Box<bool>>", nil},
		{"&'0 mut i64", "&'0 mut i64", []api.Constraint{{Long: 0, Short: 0}}},
		// Behind a mutable one is what stands behind a shared one, or in a box, behind it.
		{"&'0 mut &'1 &'2 #0", "&'3 mut &'4 &'5 #0", []api.Constraint{{Long: 0, Short: 3}, {Long: 1, Short: 4}, {Long: 4, Short: 1}, {Long: 2, Short: 5}, {Long: 5, Short: 2}}},
		{"&'0 &'1 mut Box<&'2 #0>", "&'3 &'4 mut Box<&'5 #0>", []api.Constraint{{Long: 0, Short: 3}, {Long: 1, Short: 4}, {Long: 2, Short: 5}, {Long: 5, Short: 2}}},
		{"&'0 mut &'1 mut i64", "&'2 mut &'3 mut i64", []api.Constraint{{Long: 0, Short: 2}, {Long: 1, Short: 3}, {Long: 3, Short: 1}}},
	} {
		l, e := types.Asks(read(t, c.a), read(t, c.b))
		if e != api.OK || !slices.Equal(l, c.want) {
			t.Errorf("Asks(%s, %s): %v, %v; want %v", c.a, c.b, l, e, c.want)
		}
	}
	mustNotAsk(t, read(t, "&'0 i64"), read(t, "&'0 mut i64"))
}

func mustNotAsk(t *testing.T, a, b api.Type) {
	t.Helper()
	if l, e := types.Asks(a, b); len(l) != 0 || e != api.ErrArg {
		t.Fatalf("Asks(%v, %v): %v, %v", a, b, l, e)
	}
}

// P6.4: all shapes of up to five layers, and the deepest ones, with regions of their own.
func TestAsks(t *testing.T) {
	all := append(allChains(5, 0), deepest(api.MaxNest)...)
	for _, c := range all {
		a, b := with(c, from(0)), with(c, from(200))
		x, y := whole(a), whole(b)
		l, e := types.Asks(x, y)
		if e != api.OK || !slices.Equal(l, plainAsks(a, b)) {
			t.Fatalf("Asks(%v, %v): %v, %v", a, b, l, e)
		}
		mustBe(t, "what Asks was handed", x, api.OK, whole(a))
		mustBe(t, "what Asks was handed", y, api.OK, whole(b))
		for i := range plainRegions(c) {
			met := from(0)
			bare := with(c, func() int {
				if n := met(); n != i {
					return n
				}
				return -1
			})
			mustNotAsk(t, whole(bare), y)
			mustNotAsk(t, x, whole(bare))
		}
	}
}

// P6.4: types that are not alike, or may not be, ask nothing.
func TestAsksOfUnlike(t *testing.T) {
	all := allChains(3, 0)
	for _, leaf := range leaves[1:] {
		all = append(all, chain{nil, leaf}, chain{[]layer{{region: 2}}, leaf})
	}
	for i, a := range all {
		for j, b := range all {
			if i != j {
				mustNotAsk(t, whole(a), whole(b))
			}
		}
	}
	for _, x := range wrongTypes() {
		mustNotAsk(t, x, copied(x))
		mustNotAsk(t, x, anInt)
		mustNotAsk(t, ref(0, anInt), x)
	}
}
