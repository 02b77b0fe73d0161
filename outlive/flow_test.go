package outlive_test

import (
	"fmt"
	"math"
	"slices"
	"strings"
	"testing"

	"loanword/api"
	"loanword/outlive"
	"loanword/types"
)

// P15.2: reference by reference; both ways behind a mutable one, at any depth, and not of the mutable one itself.
func TestFlows(t *testing.T) {
	for _, x := range [][3]string{
		{"i64", "i64", ""}, {"bool", "bool", ""}, {"#0", "#0", ""}, {"#31", "#31", ""}, {"Box<Box<#2>>", "Box<Box<#2>>", ""},
		{"&'1 mut i64", "&'2 mut i64", "1:2"}, {"&'1 &'2 i64", "&'3 &'4 i64", "1:3 2:4"}, {"&'1 &'2 mut i64", "&'3 &'4 mut i64", "1:3 2:4"}, {"&'1 mut &'2 mut i64", "&'3 mut &'4 mut i64", "1:3 2:4 4:2"},
		{"&'1 mut &'2 &'3 i64", "&'4 mut &'5 &'6 i64", "1:4 2:5 5:2 3:6 6:3"}, {"&'1 &'2 mut &'3 i64", "&'4 &'5 mut &'6 i64", "1:4 2:5 3:6 6:3"}, {"&'1 &'2 &'3 mut i64", "&'4 &'5 &'6 mut i64", "1:4 2:5 3:6"},
		{"&'1 mut Box<&'2 Box<Box<&'3 #1>>>", "&'4 mut Box<&'5 Box<Box<&'6 #1>>>", "1:4 2:5 5:2 3:6 6:3"}, {"Box<&'1 mut &'2 bool>", "Box<&'0 mut &'9 bool>", "1:0 2:9 9:2"}, {"Box<&'1 &'2 bool>", "Box<&'0 &'9 bool>", "1:0 2:9"},
		{"&'1 mut &'1 i64", "&'1 mut &'1 i64", "1:1 1:1 1:1"}, {"&'1 mut &'2 i64", "&'2 mut &'1 i64", "1:2 2:1 1:2"}, {"&'0 &'0 i64", "&'1 &'1 i64", "0:1 0:1"},
	} {
		mustFlow(t, x[0], x[1], x[2])
		if s := said(plainFlows(x[0], x[1])); s != x[2] {
			t.Errorf("the oracle: %s into %s: %s", x[0], x[1], s)
		}
	}
}

// P15.2: a Region of -1 is told as it is, on either side; and any number, however great.
func TestFlowsOfAnyRegions(t *testing.T) {
	mustFlow(t, "&i64", "&'2 i64", "-1:2")
	mustFlow(t, "&'2 i64", "&i64", "2:-1")
	mustFlow(t, "&mut &i64", "&'7 mut &i64", "-1:7 -1:-1 -1:-1")
	mustFlow(t, "&'0 mut & &'3 i64", "&mut &'5 &i64", "0:-1 -1:5 5:-1 3:-1 -1:3")
	mustFlow(t, "&'513 mut &'9223372036854775807 i64", "&'100000 mut &'0 i64", "513:100000 9223372036854775807:0 0:9223372036854775807")
}

// P15.2: types that may be, and are not of one shape: at any depth.
func TestUnlikeShapes(t *testing.T) {
	l := []string{"i64", "bool", "#0", "#1", "#31", "Box<i64>", "Box<bool>", "Box<#0>", "Box<Box<i64>>", "&'1 i64", "&'1 bool", "&'1 mut i64", "&'1 Box<i64>", "&'1 &'1 i64", "&'1 mut &'1 i64", "&'1 &'1 mut i64", "&'1 mut &'1 mut i64", "Box<&'1 i64>", "Box<&'1 mut i64>", "&'1 #0", "&'1 #1", "&'1 mut #0", "&'1 mut Box<&'1 i64>", "&'1 mut Box<&'1 mut i64>"}
	for i, from := range l {
		for k, into := range l {
			if i == k {
				mustFlow(t, from, into, said(plainFlows(from, into)))
				continue
			}
			mustNotFlow(t, typeOf(from), typeOf(into), api.ErrShape)
		}
	}
}

// P15.2: what may be no type, on either side, ahead of unlike shapes.
func TestWrongTypes(t *testing.T) {
	i64 := typeOf("i64")
	for what, x := range map[string]api.Type{
		"nothing":                        {},
		"a kind beyond":                  {Kind: api.TyStruct + 1},
		"a great kind":                   {Kind: math.MaxUint8},
		"an i64 that is mutable":         {Kind: api.TyInt, Mut: true},
		"an i64 with a region":           {Kind: api.TyInt, Region: 1},
		"a bool without a region":        {Kind: api.TyBool, Region: -1},
		"a bool of a struct":             {Kind: api.TyBool, Struct: 1},
		"a bool of something":            {Kind: api.TyBool, Of: []api.Type{i64}},
		"a box of nothing":               {Kind: api.TyBox},
		"a box of two":                   {Kind: api.TyBox, Of: []api.Type{i64, i64}},
		"a box with a region":            {Kind: api.TyBox, Region: 3, Of: []api.Type{i64}},
		"a box that is mutable":          {Kind: api.TyBox, Mut: true, Of: []api.Type{i64}},
		"a box of what is none":          {Kind: api.TyBox, Of: []api.Type{{}}},
		"a reference to nothing":         {Kind: api.TyRef},
		"a reference to two":             {Kind: api.TyRef, Of: []api.Type{i64, i64}},
		"a region below -1":              {Kind: api.TyRef, Region: -2, Of: []api.Type{i64}},
		"the least region":               {Kind: api.TyRef, Region: math.MinInt, Of: []api.Type{i64}},
		"a reference to what is none":    {Kind: api.TyRef, Region: 1, Of: []api.Type{{Kind: api.TyRef, Region: 1}}},
		"a reference of a struct":        {Kind: api.TyRef, Struct: 1, Of: []api.Type{i64}},
		"a struct below 0":               {Kind: api.TyStruct, Struct: -1},
		"a struct of too great a number": {Kind: api.TyStruct, Struct: api.MaxItems},
		"a struct with a region":         {Kind: api.TyStruct, Region: -1},
		"a reference that is too deep":   deep("&'1 ", api.MaxNest+1),
		"a box that is too deep":         deep("Box", api.MaxNest+1),
		"very deep":                      deep("&'1 ", 10000),
	} {
		mustNotFlow(t, x, x, api.ErrArg)
		for _, s := range []string{"i64", "bool", "#0", "Box<i64>", "&'1 i64", "&'1 mut i64", "&'1 &'1 i64"} {
			mustNotFlow(t, x, typeOf(s), api.ErrArg)
			mustNotFlow(t, typeOf(s), x, api.ErrArg)
		}
		if t.Failed() {
			t.Fatal(what)
		}
	}
}

// deep is a type that is so deep: boxes, or references of the region 1, of i64.
func deep(head string, n int) api.Type {
	t := typeOf("i64")
	for range n - 1 {
		if head == "Box" {
			t = api.Type{Kind: api.TyBox, Of: []api.Type{t}}
		} else {
			t = api.Type{Kind: api.TyRef, Region: 1, Of: []api.Type{t}}
		}
	}
	return t
}

// P15.2: types as deep as may be.
func TestDeepestTypes(t *testing.T) {
	most := api.MaxNest - 1
	numbered := func(head string, from int) string {
		s := ""
		for k := range most {
			s += fmt.Sprintf(head, from+k)
		}
		return s + "i64"
	}
	shared, both := "", "0:100"
	for k := range most {
		shared += fmt.Sprintf(" %d:%d", k, 100+k)
		if k > 0 {
			both += fmt.Sprintf(" %d:%d %d:%d", k, 100+k, 100+k, k)
		}
	}
	mustFlow(t, numbered("&'%d ", 0), numbered("&'%d ", 100), shared[1:])
	mustFlow(t, numbered("&'%d mut ", 0), numbered("&'%d mut ", 100), both)
	boxes := strings.Repeat("Box<", most-1) + "&'%d mut i64" + strings.Repeat(">", most-1)
	mustFlow(t, fmt.Sprintf(boxes, 5), fmt.Sprintf(boxes, 6), "5:6")
	mustNotFlow(t, deep("&'1 ", api.MaxNest), deep("&'1 ", api.MaxNest-1), api.ErrShape)
	mustNotFlow(t, deep("&'1 ", api.MaxNest), deep("&'1 ", api.MaxNest+1), api.ErrArg)
}

// shapes are all types of so many levels or fewer, without regions.
func shapes(levels int) []api.Type {
	l := []api.Type{typeOf("i64"), typeOf("#3")}
	if levels == 1 {
		return l
	}
	for _, t := range shapes(levels - 1) {
		l = append(l, api.Type{Kind: api.TyBox, Of: []api.Type{t}}, api.Type{Kind: api.TyRef, Region: -1, Of: []api.Type{t}}, api.Type{Kind: api.TyRef, Region: -1, Mut: true, Of: []api.Type{t}})
	}
	return l
}

// withRegions is a type whose references have regions from next.
func withRegions(x api.Type, next func() int) api.Type {
	var l []int
	for range types.Regions(x) {
		l = append(l, next())
	}
	x, e := types.Anew(x, l...)
	must(e == api.OK, "a type's regions")
	return x
}

func text(x api.Type) string {
	s, e := types.Text(x)
	must(e == api.OK, "a type")
	return s
}

// P15.2, P15.4: all shapes of up to five levels, with any regions: against the oracle; into itself; there and back; where no region is wanting against layer 6's Asks.
func TestAllShapes(t *testing.T) {
	c := byChance(151)
	asked := 0
	for _, shape := range shapes(5) {
		for _, least := range []int{-1, 0} {
			next := func() int { return least + c.Intn(8) }
			a, b := withRegions(shape, next), withRegions(shape, next)
			mustFlow(t, text(a), text(b), said(plainFlows(text(a), text(b))))
			mustFlowBack(t, a, b)
			if least == 0 {
				l, e := types.Asks(a, b)
				mustFlow(t, text(a), text(b), said(l))
				if e != api.OK {
					t.Fatal(e)
				}
			}
			asked++
		}
	}
	if asked < 400 {
		t.Errorf("%d types", asked)
	}
}

// mustFlowBack asks what follows (P15.4) of a type and another one of its shape.
func mustFlowBack(t *testing.T, a, b api.Type) {
	t.Helper()
	own, e := outlive.Flows(a, a)
	if e != api.OK || slices.ContainsFunc(own, func(c api.Constraint) bool { return c.Long != c.Short }) {
		t.Fatalf("%s into itself: %s, %v", text(a), said(own), e)
	}
	there, e := outlive.Flows(a, b)
	back, f := outlive.Flows(b, a)
	if e != api.OK || f != api.OK || len(there) != len(back) || len(own) != len(there) {
		t.Fatalf("%s, %s: %s, back %s, %v, %v", text(a), text(b), said(there), said(back), e, f)
	}
	references := len(types.Regions(a))
	if !strings.Contains(text(a), "mut") && len(there) != references || len(there) < references {
		t.Fatalf("%s has %d references: %s", text(a), references, said(there))
	}
	all := append(there, back...)
	regionsOfB := types.Regions(b)
	for k, r := range types.Regions(a) {
		if !slices.Contains(all, api.Constraint{Long: r, Short: regionsOfB[k]}) || !slices.Contains(all, api.Constraint{Long: regionsOfB[k], Short: r}) {
			t.Fatalf("%s, %s: there and back it says %s", text(a), text(b), said(all))
		}
	}
}
