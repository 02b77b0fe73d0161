package region_test

import (
	"math"
	"reflect"
	"strings"
	"testing"

	"loanword/api"
	"loanword/region"
	"loanword/types"
)

// smallTypes are the texts of all types of up to three layers, with the regions -1 to 2.
func smallTypes() []string {
	all := []string{"i64", "bool", "#0", "#31"}
	from := 0
	for range 3 {
		to := len(all)
		for _, s := range all[from:to] {
			all = append(all, "Box<"+s+">", "&mut "+s, "&'0 "+s, "&'1 mut "+s, "&'2 "+s)
			if s[0] == '&' {
				s = " " + s
			}
			all = append(all, "&"+s)
		}
		from = to
	}
	return all
}

// P13.3: all small types, with lists of regions of all lengths about theirs.
func TestTurnSmallTypes(t *testing.T) {
	lists := [][]int{nil, {}, {5}, {5, 3}, {5, 3, 700}, {0, 1, 2, 3}, {2, 1, 0}, {4, 4, 4}, {0, 0}}
	taken := 0
	for _, s := range smallTypes() {
		x, e := region.Erase(typeOf(s))
		mustType(t, "Erase of "+s, x, e, erasedText(s))
		for _, regions := range lists {
			may := true
			for _, k := range types.Regions(typeOf(s)) {
				may = may && k >= 0 && k < len(regions)
			}
			x, e := region.Turn(typeOf(s), regions)
			if !may {
				mustNoType(t, "Turn of "+s, x, e, api.ErrArg)
				continue
			}
			mustType(t, "Turn of "+s, x, e, turnedText(s, func(k int) int { return regions[k] }))
			taken++
		}
	}
	if taken < 1500 {
		t.Errorf("%d", taken)
	}
}

// P13.3: each Region is turned once, into what stands in the list: though that is a place of the list again, or no region at all.
func TestTurnIntoAnything(t *testing.T) {
	x, e := region.Turn(typeOf("&'0 &'1 mut &'2 i64"), []int{1, 2, 0})
	mustType(t, "round", x, e, "&'1 &'2 mut &'0 i64")
	for _, k := range []int{-1, -2, math.MinInt, math.MaxInt} {
		x, e := region.Turn(typeOf("Box<&'1 mut i64>"), []int{3, k})
		if want := (api.Type{Kind: api.TyBox, Of: []api.Type{{Kind: api.TyRef, Mut: true, Region: k, Of: []api.Type{{Kind: api.TyInt}}}}}); e != api.OK || !reflect.DeepEqual(x, want) {
			t.Errorf("into %d: %+v, %v", k, x, e)
		}
	}
}

// P13.3: a Region that is none of the list's places, wherever it stands.
func TestTurnWrongRegions(t *testing.T) {
	regions := make([]int, 20)
	for _, s := range []string{"&i64", "&'20 i64", "&'0 &'20 i64", "&'20 &'0 i64", "&'0 mut Box<&'19 mut &bool>", "&'9223372036854775807 i64"} {
		x, e := region.Turn(typeOf(s), regions)
		mustNoType(t, s, x, e, api.ErrArg)
	}
	x, e := region.Turn(typeOf("&'19 i64"), regions)
	mustType(t, "the last one", x, e, "&'0 i64")
	x, e = region.Turn(typeOf("&'0 i64"), nil)
	mustNoType(t, "no list", x, e, api.ErrArg)
	x, e = region.Turn(typeOf("Box<i64>"), nil)
	mustType(t, "no references", x, e, "Box<i64>")
}

// wrongTypes may not be, wherever they stand.
func wrongTypes() []api.Type {
	i64 := api.Type{Kind: api.TyInt}
	return []api.Type{
		{}, {Kind: 6}, {Kind: 255},
		{Kind: api.TyInt, Mut: true}, {Kind: api.TyInt, Region: 1}, {Kind: api.TyInt, Struct: 1}, {Kind: api.TyBool, Of: []api.Type{i64}}, {Kind: api.TyBool, Region: -1},
		{Kind: api.TyBox}, {Kind: api.TyBox, Of: []api.Type{i64, i64}}, {Kind: api.TyBox, Mut: true, Of: []api.Type{i64}}, {Kind: api.TyBox, Region: -1, Of: []api.Type{i64}},
		{Kind: api.TyRef}, {Kind: api.TyRef, Of: []api.Type{}}, {Kind: api.TyRef, Of: []api.Type{i64, i64}}, {Kind: api.TyRef, Region: -2, Of: []api.Type{i64}}, {Kind: api.TyRef, Struct: 1, Of: []api.Type{i64}}, {Kind: api.TyRef, Of: []api.Type{{}}},
		{Kind: api.TyStruct, Struct: -1}, {Kind: api.TyStruct, Struct: api.MaxItems}, {Kind: api.TyStruct, Of: []api.Type{i64}}, {Kind: api.TyStruct, Region: -1},
		deep("&'0 ", api.MaxNest+1), deep("&", api.MaxNest+1), deep("Box<", api.MaxNest+1), deep("&'0 ", 2000),
	}
}

// deep is a type so deep, all of one kind.
func deep(first string, n int) api.Type {
	t := api.Type{Kind: api.TyInt}
	for range n - 1 {
		x := api.Type{Kind: api.TyRef, Of: []api.Type{t}}
		switch first {
		case "Box<":
			x.Kind = api.TyBox
		case "&":
			x.Region = -1
		}
		t = x
	}
	return t
}

// P13.3: types that may not be, by themselves and within others.
func TestWrongTypes(t *testing.T) {
	regions := []int{7, 8, 9}
	for _, wrong := range wrongTypes() {
		for _, x := range []api.Type{wrong, {Kind: api.TyBox, Of: []api.Type{wrong}}, {Kind: api.TyRef, Region: 1, Of: []api.Type{wrong}}, {Kind: api.TyBox, Of: []api.Type{{Kind: api.TyRef, Mut: true, Of: []api.Type{wrong}}}}} {
			got, e := region.Turn(x, regions)
			mustNoType(t, "Turn", got, e, api.ErrArg)
			got, e = region.Erase(x)
			mustNoType(t, "Erase", got, e, api.ErrArg)
		}
	}
}

// P13.3: types as deep as may be.
func TestDeepTypes(t *testing.T) {
	most := api.MaxNest - 1
	x, e := region.Turn(deep("&'0 ", api.MaxNest), []int{5})
	mustType(t, "Turn", x, e, strings.Repeat("&'5 ", most)+"i64")
	x, e = region.Erase(deep("&'0 ", api.MaxNest))
	mustType(t, "Erase", x, e, strings.TrimSuffix(strings.Repeat("& ", most), " ")+"i64")
	x, e = region.Turn(deep("Box<", api.MaxNest), nil)
	mustType(t, "Turn of boxes", x, e, strings.Repeat("Box<", most)+"i64"+strings.Repeat(">", most))
	x, e = region.Turn(deep("&", api.MaxNest), make([]int, 50))
	mustNoType(t, "Turn without regions", x, e, api.ErrArg)
}
