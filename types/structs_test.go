package types_test

import (
	"reflect"
	"testing"

	"loanword/api"
	"loanword/types"
)

// mustTell holds all that takes structs against what is said of them.
func mustTell(t *testing.T, s []api.Struct) {
	t.Helper()
	want, wantE := plainStructs(s)
	if at, e := types.Structs(s); at != want || e != wantE {
		t.Fatalf("Structs(%v): %d, %v; want %d, %v", s, at, e, want, wantE)
	}
	if types.May(s, anInt) != (wantE == api.OK) {
		t.Fatalf("May(%v, i64)", s)
	}
	if wantE != api.OK {
		mustNotMeasure(t, s, anInt)
		mustNotMeasure(t, s, nth(0))
		return
	}
	words, drops := plainWords(s), plainDrops(s)
	for n, x := range s {
		mustMeasure(t, s, nth(n), int(words[n].Int64()), drops[n])
		mustMeasure(t, s, boxed(nth(n)), 1, true)
		mustMeasure(t, s, mutRef(3, nth(n)), 1, false)
		l, e := types.Fields(s, nth(n))
		if e != api.OK || len(l) != len(x.Fields) {
			t.Fatalf("Fields(%v, %d): %v, %v", s, n, l, e)
		}
		for i, f := range x.Fields {
			mustBe(t, "a field", l[i], e, f.Type)
		}
	}
	mustNotMeasure(t, s, nth(len(s)))
	mustNotMeasure(t, s, nth(-1))
}

func mustMeasure(t *testing.T, s []api.Struct, x api.Type, words int, drops bool) {
	t.Helper()
	if n, e := types.Words(s, x); n != words || e != api.OK {
		t.Fatalf("Words(%v, %v): %d, %v; want %d", s, x, n, e, words)
	}
	if d, e := types.Drops(s, x); d != drops || e != api.OK {
		t.Fatalf("Drops(%v, %v): %v, %v; want %v", s, x, d, e, drops)
	}
	if !types.May(s, x) {
		t.Fatalf("May(%v, %v)", s, x)
	}
}

func mustNotMeasure(t *testing.T, s []api.Struct, x api.Type) {
	t.Helper()
	if n, e := types.Words(s, x); n != 0 || e != api.ErrArg {
		t.Fatalf("Words(%v, %v): %d, %v", s, x, n, e)
	}
	if d, e := types.Drops(s, x); d || e != api.ErrArg {
		t.Fatalf("Drops(%v, %v): %v, %v", s, x, d, e)
	}
	if types.May(s, x) {
		t.Fatalf("May(%v, %v)", s, x)
	}
	mustHaveNoFields(t, s, x)
}

func mustHaveNoFields(t *testing.T, s []api.Struct, x api.Type) {
	t.Helper()
	if l, e := types.Fields(s, x); len(l) != 0 || e != api.ErrArg {
		t.Fatalf("Fields(%v, %v): %v, %v", s, x, l, e)
	}
}

// P6.1: the chapter's examples.
func TestStructsExamples(t *testing.T) {
	s := []api.Struct{structOf(anInt, boxed(nth(1))), structOf(aBool, nth(0))}
	mustMeasure(t, s, nth(0), 2, true)
	mustMeasure(t, s, nth(1), 3, true)
	mustTell(t, s)
	if at, e := types.Structs([]api.Struct{structOf(nth(0))}); at != 0 || e != api.ErrArg {
		t.Errorf("within itself: %d, %v", at, e)
	}
	if at, e := types.Structs([]api.Struct{structOf(nth(1)), structOf(boxed(nth(0)))}); at != 0 || e != api.OK {
		t.Errorf("within a box: %d, %v", at, e)
	}
}

// P6.1: which struct is told, where more than one, or one for more than one reason, is at fault.
func TestStructsFirstFault(t *testing.T) {
	large, most := structOf(repeat(nth(0), 8)...), structOf(repeat(anInt, 8)...)
	for _, c := range []struct {
		what string
		s    []api.Struct
		at   int
	}{
		{"one more than there may be, all at fault", make([]api.Struct, api.MaxItems+1), api.MaxItems},
		{"many more", make([]api.Struct, 5000), api.MaxItems},
		{"no fields", []api.Struct{most, {}}, 1},
		{"too many fields", []api.Struct{most, structOf(repeat(anInt, 9)...)}, 1},
		{"many too many fields", []api.Struct{structOf(repeat(anInt, 3000)...)}, 0},
		{"a struct of a number beyond", []api.Struct{most, structOf(anInt, nth(2))}, 1},
		{"a struct of a number beyond, in a box", []api.Struct{most, structOf(boxed(nth(2)))}, 1},
		{"a struct of a number below 0", []api.Struct{most, structOf(boxed(nth(-1)))}, 1},
		{"a reference", []api.Struct{most, structOf(anInt, ref(0, anInt))}, 1},
		{"a reference in boxes", []api.Struct{most, structOf(boxed(boxed(mutRef(-1, anInt))))}, 1},
		{"wrong fields ahead of endless ones, whatever the number", []api.Struct{structOf(nth(0)), structOf(nth(7))}, 1},
		{"endless ones ahead of large ones, whatever the number", []api.Struct{structOf(repeat(nth(1), 8)...), structOf(repeat(nth(2), 8)...), structOf(nth(2), anInt)}, 2},
		{"one that has an endless one in it is not endless", []api.Struct{structOf(nth(1)), structOf(nth(2)), structOf(nth(1))}, 1},
		{"round through three", []api.Struct{structOf(anInt), structOf(nth(3)), structOf(nth(1)), structOf(anInt, nth(2))}, 1},
		{"one word too many", []api.Struct{most, structOf(nth(0), nth(0)), structOf(nth(1), anInt)}, 2},
		{"large ones, the first", []api.Struct{most, structOf(anInt), large, large}, 2},
	} {
		if at, e := types.Structs(c.s); at != c.at || e != api.ErrArg {
			t.Errorf("%s: %d, %v; want %d", c.what, at, e, c.at)
		}
		mustTell(t, c.s)
	}
}

// P6.1: the most of all: structs, fields, words, how deep a field's type is.
func TestStructsEdges(t *testing.T) {
	box := layer{box: true}
	for _, s := range [][]api.Struct{
		nil,
		{},
		{structOf(repeat(anInt, 8)...), structOf(nth(0), nth(0))},
		{structOf(nth(1), nth(1)), structOf(repeat(boxed(nth(0)), 8)...)},
		{structOf(whole(chain{repeat(box, api.MaxNest-1), nth(0)}))},
		{structOf(api.Type{Kind: api.TyInt, Of: []api.Type{}})},
		repeat(structOf(anInt), api.MaxItems),
	} {
		if at, e := types.Structs(s); at != 0 || e != api.OK {
			t.Errorf("Structs(%v): %d, %v", s, at, e)
		}
	}
	for _, s := range [][]api.Struct{
		{structOf(whole(chain{repeat(box, api.MaxNest), anInt}))},
		repeat(structOf(anInt), api.MaxItems+1),
	} {
		if _, e := types.Structs(s); e != api.ErrArg {
			t.Errorf("Structs(%v): %v", s, e)
		}
	}
	// Names are of no moment.
	named := []api.Struct{{Name: "x y", Fields: []api.Field{{Type: anInt}, {Name: "?", Type: anInt}, {Name: "?", Type: anInt}}}}
	mustMeasure(t, named, nth(0), 3, false)
}

// P6.1: as many structs as may be, one in the other: chains, rings, and so many words that no number holds them.
func TestStructsManyWithin(t *testing.T) {
	for _, wide := range []int{1, 2, 8} {
		down := make([]api.Struct, api.MaxItems)
		up := make([]api.Struct, api.MaxItems)
		for n := range down {
			down[n] = structOf(repeat(nth(n+1), wide)...)
			up[n] = structOf(repeat(nth(n-1), wide)...)
		}
		down[api.MaxItems-1] = structOf(repeat(anInt, wide)...)
		up[0] = structOf(repeat(boxed(anInt), wide)...)
		mustTell(t, down)
		mustTell(t, up)
		up[0].Fields[0].Type = nth(api.MaxItems - 1)
		mustTell(t, up)
		up[0].Fields[0].Type = nth(20)
		mustTell(t, up)
		down[api.MaxItems-1].Fields[0].Type = nth(20)
		mustTell(t, down)
	}
}

// P6.1: all lists of up to three structs of up to two fields of some types.
func TestSmallStructs(t *testing.T) {
	if testing.Short() {
		t.Skip("many lists")
	}
	some := []api.Type{anInt, nth(0), nth(1), nth(2), boxed(nth(0)), ref(0, anInt)}
	all := []api.Struct{{}}
	for _, a := range some {
		all = append(all, structOf(a))
		for _, b := range some[:5] {
			all = append(all, structOf(a, b))
		}
	}
	for _, a := range all {
		mustTell(t, []api.Struct{a})
		for _, b := range all {
			mustTell(t, []api.Struct{a, b})
			for _, c := range all {
				mustTell(t, []api.Struct{a, b, c})
			}
		}
	}
}

// P6.1: structs by chance, most of which may be; with one field changed to a wrong type none is.
func TestStructsByChance(t *testing.T) {
	c := byChance(61)
	wrong := wrongTypes()
	well := 0
	for i := range 8000 {
		s := c.structs([]int{3, 6, 12, api.MaxItems}[i%4], i%3 == 0)
		mustTell(t, s)
		if _, e := types.Structs(s); e == api.OK && len(s) > 0 {
			well++
			fields := s[c.Intn(len(s))].Fields
			fields[c.Intn(len(fields))].Type = wrong[c.Intn(len(wrong))]
			mustTell(t, s)
		}
	}
	if well < 1000 {
		t.Errorf("only %d lists may be", well)
	}
}

// P6.1: a type among structs: as many as there are.
func TestMay(t *testing.T) {
	c := byChance(62)
	for count := range api.MaxItems + 1 {
		s := repeat(structOf(anInt), count)
		for _, x := range wrongTypes() {
			mustNotMeasure(t, s, x)
		}
		for _, d := range append(deepest(api.MaxNest), deepest(2)...) {
			if x := whole(d); types.May(s, x) != plainMay(count, x) {
				t.Fatalf("May(%d structs, %v)", count, x)
			}
		}
		for range 200 {
			if x := whole(c.chain(5)); types.May(s, x) != plainMay(count, x) {
				t.Fatalf("May(%d structs, %v)", count, x)
			}
		}
	}
	if types.May(nil, nth(0)) || !types.May(nil, anInt) || !types.May(nil, ref(-1, aBool)) {
		t.Error("May without structs")
	}
}

// P6.1: Fields is asked of structs alone.
func TestFieldsOfOthers(t *testing.T) {
	s := []api.Struct{structOf(anInt, boxed(boxed(aBool)))}
	for _, x := range []api.Type{anInt, aBool, boxed(nth(0)), ref(0, nth(0)), mutRef(1, nth(0)), nth(1)} {
		mustHaveNoFields(t, s, x)
	}
	for _, x := range wrongTypes() {
		mustHaveNoFields(t, s, x)
	}
}

// P6.1: what Fields answers is new memory, field by field.
func TestFieldsShareNothing(t *testing.T) {
	s := []api.Struct{structOf(boxed(boxed(anInt)), anInt, boxed(aBool))}
	s[0].Fields = append(s[0].Fields, s[0].Fields[0], api.Field{Type: api.Type{Kind: api.TyBool, Of: []api.Type{}}})
	want := []api.Type{boxed(boxed(anInt)), anInt, boxed(aBool), boxed(boxed(anInt)), aBool}
	l, e := types.Fields(s, nth(0))
	if e != api.OK || !reflect.DeepEqual(l, want) {
		t.Fatalf("%v, %v", l, e)
	}
	scratch(l[0])
	if !reflect.DeepEqual(l[3], want[3]) || !reflect.DeepEqual(s[0].Fields[0].Type, want[0]) {
		t.Errorf("the first field's type is shared: %v, %v", l[3], s[0].Fields[0].Type)
	}
	scratch(s[0].Fields[2].Type)
	if !reflect.DeepEqual(l[2], want[2]) {
		t.Errorf("a field's type is the struct's: %v", l[2])
	}
}

// P6.1: what is to copy.
func TestCopies(t *testing.T) {
	for x, want := range map[string]bool{
		"i64": true, "bool": true, "&'0 i64": true, "&i64": true, "&'0 mut i64": false, "&mut i64": false,
		"& &mut i64": true, "&mut &i64": false, "&Box<i64>": true, "&#31": true, "Box<i64>": false, "Box<&i64>": false, "#0": false, "#31": false,
	} {
		if types.Copies(read(t, x)) != want {
			t.Errorf("Copies(%s): %v", x, !want)
		}
	}
	for _, x := range wrongTypes() {
		if types.Copies(x) {
			t.Errorf("Copies(%v)", x)
		}
	}
	for _, c := range deepest(api.MaxNest) {
		first := c.layers[0]
		if types.Copies(whole(c)) != (!first.box && !first.mut) {
			t.Errorf("Copies(%v)", c)
		}
	}
	if !types.Copies(api.Type{Kind: api.TyBool, Of: []api.Type{}}) {
		t.Error("a list of nothing and none are the same")
	}
}
