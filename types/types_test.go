package types_test

import (
	"reflect"
	"slices"
	"testing"

	"loanword/api"
	"loanword/types"
)

// P6.2: Own is the type, in memory of its own.
func TestOwn(t *testing.T) {
	c := byChance(63)
	all := append(allChains(3, -1, 4), deepest(api.MaxNest)...)
	for range 2000 {
		all = append(all, c.chain(api.MaxNest-1))
	}
	for _, x := range all {
		given := whole(x)
		got, e := types.Own(given)
		mustBe(t, "Own", got, e, whole(x))
		scratch(got)
		mustBe(t, "what Own was handed", given, api.OK, whole(x))
		got, _ = types.Own(given)
		scratch(given)
		mustBe(t, "what Own answered", got, api.OK, whole(x))
	}
	for _, x := range wrongTypes() {
		got, e := types.Own(x)
		mustRefuse(t, "Own", got, e)
	}
	got, e := types.Own(api.Type{Kind: api.TyInt, Of: make([]api.Type, 0, 5)})
	if e != api.OK || len(got.Of) != 0 || cap(got.Of) != 0 {
		t.Errorf("Own of a list of nothing: %v, %v", got, e)
	}
}

// P6.2: Alike and Same of all pairs of some chains.
func TestAlikeAndSame(t *testing.T) {
	all := allChains(3, -1, 0, 6)
	for _, leaf := range []api.Type{aBool, nth(0), nth(1)} {
		for _, c := range allChains(1, -1, 3) {
			all = append(all, chain{c.layers, leaf})
		}
	}
	var l, bare []api.Type
	for _, c := range all {
		l = append(l, whole(c))
		bare = append(bare, whole(with(c, func() int { return 5 })))
	}
	for i, a := range l {
		for j, b := range l {
			if want := reflect.DeepEqual(bare[i], bare[j]); types.Alike(a, b) != want {
				t.Fatalf("Alike(%v, %v): %v", a, b, !want)
			}
			if want := i == j; types.Same(a, b) != want {
				t.Fatalf("Same(%v, %v): %v", a, b, !want)
			}
		}
	}
}

// P6.2: the deepest types, and those of which one list is empty, the other one none.
func TestAlikeEdges(t *testing.T) {
	for _, c := range deepest(api.MaxNest) {
		a, b := whole(c), whole(with(c, from(100)))
		if !types.Alike(a, b) || !types.Same(a, copied(a)) || !types.Same(b, copied(b)) {
			t.Errorf("%v", c)
		}
		if types.Same(a, b) != (len(plainRegions(c)) == 0) {
			t.Errorf("Same(%v, %v)", a, b)
		}
		other := whole(chain{c.layers, aBool})
		if types.Alike(a, other) || types.Same(other, a) {
			t.Errorf("alike but for the innermost: %v", c)
		}
	}
	empty := api.Type{Kind: api.TyInt, Of: []api.Type{}}
	if !types.Alike(empty, anInt) || !types.Same(anInt, empty) || !types.Same(boxed(empty), boxed(anInt)) {
		t.Error("a list of nothing and none are not the same")
	}
}

// P6.2: of types that may not be nothing is alike, and none has regions.
func TestAlikeOfWrong(t *testing.T) {
	for _, x := range wrongTypes() {
		for _, y := range []api.Type{copied(x), anInt, nth(3), ref(0, anInt), boxed(anInt)} {
			if types.Alike(x, y) || types.Alike(y, x) || types.Same(x, y) || types.Same(y, x) {
				t.Fatalf("%v is like %v", x, y)
			}
		}
		if l := types.Regions(x); len(l) != 0 {
			t.Fatalf("Regions(%v): %v", x, l)
		}
	}
}

// P6.2: regions, in order, those that are none yet too.
func TestRegions(t *testing.T) {
	if l := types.Regions(read(t, "&'3 mut Box<&'1 i64>")); !slices.Equal(l, []int{3, 1}) {
		t.Errorf("the chapter's example: %v", l)
	}
	c := byChance(64)
	all := append(allChains(3, -1, 0, 6), deepest(api.MaxNest)...)
	for range 2000 {
		all = append(all, c.chain(api.MaxNest-1))
	}
	for _, x := range all {
		given := whole(x)
		if l := types.Regions(given); !slices.Equal(l, plainRegions(x)) {
			t.Fatalf("Regions(%v): %v", x, l)
		}
		mustBe(t, "what Regions was handed", given, api.OK, whole(x))
	}
}
