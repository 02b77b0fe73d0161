package place_test

import (
	"slices"
	"testing"

	"loanword/api"
	"loanword/place"
	"loanword/types"
)

// P9.1: the chapter's examples.
func TestTypeExamples(t *testing.T) {
	w := chapterWorld(t)
	for s, want := range map[string]string{"_1.1": "Box<i64>", "_2.*.1.*": "i64"} {
		x, e := place.Type(w.structs, w.locals, read(t, s))
		if got, _ := types.Text(x); got != want || e != api.OK {
			t.Errorf("Type(%s): %q, %v; want %q", s, got, e, want)
		}
	}
	for _, s := range []string{"_1.2", "_0.*"} {
		w.mustRefuse(t, read(t, s))
	}
	for s, want := range map[string][]int{"_2.*.1.*": {2, 0, 1}, "_3.*": {3}} {
		if l, e := place.Goes(w.structs, w.locals, read(t, s)); !slices.Equal(l, want) || e != api.OK {
			t.Errorf("Goes(%s): %v, %v; want %v", s, l, e, want)
		}
	}
}

// P9.1, P9.2: all short paths from each local, of steps that go and of such as never do.
func TestAllShortPlaces(t *testing.T) {
	w := richWorld(t)
	well, ill := 0, 0
	for _, path := range allPaths(4, deref, 0, 1, 2, 7, 8, -2) {
		for local := -1; local <= len(w.locals); local++ {
			if w.mustTell(t, at(local, path...)) {
				well++
			} else {
				ill++
			}
		}
	}
	if well < 100 || ill < 10000 {
		t.Errorf("only %d may be, only %d may not", well, ill)
	}
}

// P9.1, P9.2: all places of up to six steps; longer ones by chance, with a wrong step here and there.
func TestAllPlaces(t *testing.T) {
	w := richWorld(t)
	for _, p := range w.allPlaces(6) {
		if !w.mustTell(t, p) {
			t.Fatalf("%v may not be", p)
		}
	}
	c := byChance(91)
	well, longest := 0, 0
	for range 20000 {
		if p := c.place(w, api.MaxSteps+2, 20); w.mustTell(t, p) {
			well++
			longest = max(longest, len(p.Path))
		}
	}
	if well < 1000 || longest != api.MaxSteps {
		t.Errorf("only %d may be, of up to %d steps", well, longest)
	}
}

// P9.1: wrong locals, wrong steps.
func TestWrongPlaces(t *testing.T) {
	for _, w := range []world{chapterWorld(t), richWorld(t)} {
		for _, p := range w.wrongPlaces() {
			w.mustRefuse(t, p)
		}
	}
	none := newWorld(t, nil)
	for _, p := range []api.Place{{}, at(1), at(-1), at(0, deref), at(0, 0)} {
		none.mustRefuse(t, p)
	}
}

// P9.1: a place has at most MaxSteps steps, however far its type goes on.
func TestMostSteps(t *testing.T) {
	w := newWorld(t, [][]string{{"Box<#0>", "i64"}, {"#2"}, {"#3"}, {"#4"}, {"#5"}, {"#6"}, {"#7"}, {"#8"}, {"#9"}, {"i64"}},
		"Box<Box<Box<Box<Box<Box<Box<Box<i64>>>>>>>>", "Box<Box<Box<Box<Box<Box<Box<Box<Box<i64>>>>>>>>>",
		"&mut &mut &mut &mut &mut &mut &mut &mut &mut &mut i64", "#0", "Box<#0>", "#1")
	for s, want := range map[string]bool{
		"_0.*.*.*.*.*.*.*.*": true,
		"_1.*.*.*.*.*.*.*.*": true,
		"_2.*.*.*.*.*.*.*.*": true,
		"_3.0.*.0.*.0.*.0.*": true,
		"_4.*.0.*.0.*.0.*.1": true,
		"_4.*.0.*.0.*.0.*.2": false,
		"_5.0.0.0.0.0.0.0.0": true,
		"_5.0.0.0.0.0.0.0.1": false,
		"_0.*.*.*.*.*.*.*.0": false,
	} {
		if p := read(t, s); w.mustTell(t, p) != want {
			t.Errorf("%s: may be is %v", s, !want)
		}
	}
	for _, p := range []api.Place{
		at(1, deref, deref, deref, deref, deref, deref, deref, deref, deref),
		at(2, deref, deref, deref, deref, deref, deref, deref, deref, deref),
		at(3, 0, deref, 0, deref, 0, deref, 0, deref, 0),
		at(4, deref, 0, deref, 0, deref, 0, deref, 0, deref),
		at(5, 0, 0, 0, 0, 0, 0, 0, 0, 0),
	} {
		w.mustRefuse(t, p)
	}
}

// P9.1: as many structs and fields as may be, types as deep as may be, more locals than a graph has.
func TestMostOfAll(t *testing.T) {
	var structs [][]string
	for range api.MaxItems {
		structs = append(structs, []string{"i64", "i64", "i64", "i64", "i64", "i64", "i64", "Box<#31>"})
	}
	deep := "#31"
	for range api.MaxNest - 1 {
		deep = "Box<" + deep + ">"
	}
	locals := slices.Repeat([]string{"#31", deep, "&'511 mut #0"}, 700)
	w := newWorld(t, structs, locals...)
	for local := 0; local < len(locals); local += 131 {
		for _, path := range [][]api.Step{nil, {7}, {8}, {7, deref, 7, deref, 7, deref, 7, deref}, {deref}, {deref, deref, deref}, {deref, 7, deref, 7}, {deref, 8}} {
			w.mustTell(t, at(local, path...))
		}
	}
	w.mustRefuse(t, at(len(locals)))
	w.locals[0] = api.Type{Kind: api.TyBox, Of: []api.Type{w.locals[1]}}
	w.mustRefuseAll(t, "a type that is too deep")
}

// P9.1: names are of no moment: none, wrong ones, the same ones.
func TestNamesOfNoMoment(t *testing.T) {
	w := richWorld(t)
	for n := range w.structs {
		w.structs[n].Name = "x y"
		for i := range w.structs[n].Fields {
			w.structs[n].Fields[i].Name = []string{"?", "", "a"}[min(i, 2)]
		}
	}
	for _, p := range w.allPlaces(3) {
		w.mustTell(t, p)
	}
}

// P9.1: lists of nothing and none are the same.
func TestListsOfNothing(t *testing.T) {
	w := newWorld(t, [][]string{{"i64", "Box<i64>"}}, "i64", "#0", "Box<bool>")
	none := []api.Type{}
	w.structs[0].Fields[0].Type.Of, w.locals[0].Of, w.locals[1].Of, w.locals[2].Of[0].Of = none, none, none, none
	for _, p := range w.allPlaces(3) {
		w.mustTell(t, p)
		if len(p.Path) == 0 {
			w.mustTell(t, api.Place{Local: p.Local, Path: []api.Step{}})
		}
	}
	bare := newWorld(t, nil, "&mut i64")
	bare.structs = []api.Struct{}
	bare.mustTell(t, at(0, deref))
}

// wrongTypes are types that may not be among four structs.
func wrongTypes(t *testing.T) []api.Type {
	number := api.Type{Kind: api.TyInt}
	l := []api.Type{
		{}, {Kind: 99}, {Kind: api.TyInt, Mut: true}, {Kind: api.TyInt, Region: -1}, {Kind: api.TyBool, Struct: 1}, {Kind: api.TyBool, Of: []api.Type{number}},
		{Kind: api.TyBox}, {Kind: api.TyBox, Of: []api.Type{number, number}}, {Kind: api.TyBox, Of: []api.Type{{}}}, {Kind: api.TyBox, Region: 1, Of: []api.Type{number}},
		{Kind: api.TyRef}, {Kind: api.TyRef, Region: -2, Of: []api.Type{number}}, {Kind: api.TyRef, Struct: 1, Of: []api.Type{number}}, {Kind: api.TyRef, Of: []api.Type{number, number}},
		{Kind: api.TyStruct, Struct: -1}, {Kind: api.TyStruct, Struct: 1, Mut: true}, {Kind: api.TyStruct, Of: []api.Type{number}},
		{Kind: api.TyStruct, Struct: api.MaxItems}, {Kind: api.TyRef, Of: []api.Type{{Kind: api.TyStruct, Struct: api.MaxItems}}},
	}
	for _, s := range []string{"#4", "#31", "Box<#4>", "&#4", "&mut &Box<#5>"} {
		l = append(l, typeOf(t, s))
	}
	deep := number
	for range api.MaxNest {
		deep = api.Type{Kind: api.TyBox, Of: []api.Type{deep}}
	}
	return append(l, deep)
}

// P9.1: one local of a type that may not be, wherever it stands: no place may be.
func TestWrongTypes(t *testing.T) {
	for _, wrong := range wrongTypes(t) {
		w := richWorld(t)
		for _, local := range []int{0, 6, len(w.locals) - 1} {
			v := w
			v.locals = slices.Clone(w.locals)
			v.locals[local] = wrong
			v.mustRefuseAll(t, "a wrong type")
		}
		w.locals = append(w.locals, wrong)
		w.mustRefuseAll(t, "a wrong type more")
	}
}

// P9.1: structs that may not be, whether a local has one or not: no place may be.
func TestWrongStructs(t *testing.T) {
	eight := slices.Repeat([]string{"i64"}, 8)
	for what, structs := range map[string][][]string{
		"one too many":          slices.Repeat([][]string{{"i64"}}, api.MaxItems+1),
		"no fields":             {{"i64"}, {}},
		"one field too many":    {{"i64"}, append(slices.Clone(eight), "bool")},
		"a reference":           {{"i64"}, {"Box<&'0 i64>"}},
		"a struct that is none": {{"i64"}, {"Box<#2>"}},
		"endless":               {{"i64"}, {"bool", "#1"}},
		"endless by another":    {{"#1"}, {"#2"}, {"i64", "#1"}},
		"too many words":        {eight, {"#0", "#0", "i64"}},
	} {
		newWorld(t, structs, "i64", "Box<i64>", "&mut bool", "#0", "#1", "&#0").mustRefuseAll(t, what)
		newWorld(t, structs, "i64", "Box<i64>").mustRefuseAll(t, what+", no local has one")
	}
	w := newWorld(t, [][]string{{"i64"}}, "Box<i64>", "#0")
	w.structs[0].Fields[0].Type = api.Type{Kind: api.TyBox}
	w.mustRefuseAll(t, "a field's type that may not be")
}
