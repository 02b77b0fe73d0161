package types_test

import (
	"fmt"
	"math"
	"math/big"
	"math/rand"
	"reflect"
	"strings"
	"testing"

	"loanword/api"
	"loanword/types"
)

// layer is a box, or a reference.
type layer struct {
	box, mut bool
	region   int
}

// chain is a type as the list of what stands around its innermost one, the outermost first: what the package is held against, by loops alone.
type chain struct {
	layers []layer
	leaf   api.Type
}

var (
	anInt  = api.Type{Kind: api.TyInt}
	aBool  = api.Type{Kind: api.TyBool}
	leaves = []api.Type{anInt, aBool, nth(0), nth(1), nth(9), nth(10), nth(31)}
)

func nth(n int) api.Type { return api.Type{Kind: api.TyStruct, Struct: n} }

func boxed(t api.Type) api.Type { return api.Type{Kind: api.TyBox, Of: []api.Type{t}} }

func ref(region int, t api.Type) api.Type {
	return api.Type{Kind: api.TyRef, Region: region, Of: []api.Type{t}}
}

func mutRef(region int, t api.Type) api.Type {
	return api.Type{Kind: api.TyRef, Region: region, Mut: true, Of: []api.Type{t}}
}

// whole is the type that a chain is.
func whole(c chain) api.Type {
	t := c.leaf
	for i := len(c.layers) - 1; i >= 0; i-- {
		switch l := c.layers[i]; {
		case l.box:
			t = boxed(t)
		case l.mut:
			t = mutRef(l.region, t)
		default:
			t = ref(l.region, t)
		}
	}
	return t
}

// with is a chain with the regions that next tells, from the outermost one in.
func with(c chain, next func() int) chain {
	x := chain{leaf: c.leaf}
	for _, l := range c.layers {
		if !l.box {
			l.region = next()
		}
		x.layers = append(x.layers, l)
	}
	return x
}

// from tells numbers from n on.
func from(n int) func() int {
	return func() int {
		n++
		return n - 1
	}
}

func plainRegions(c chain) []int {
	var l []int
	for _, x := range c.layers {
		if !x.box {
			l = append(l, x.region)
		}
	}
	return l
}

func plainText(c chain) string {
	s := map[api.TypeKind]string{api.TyInt: "i64", api.TyBool: "bool", api.TyStruct: fmt.Sprint("#", c.leaf.Struct)}[c.leaf.Kind]
	for i := len(c.layers) - 1; i >= 0; i-- {
		l := c.layers[i]
		if l.box {
			s = "Box<" + s + ">"
			continue
		}
		if l.mut {
			s = "mut " + s
		}
		if l.region >= 0 {
			s = fmt.Sprintf("'%d %s", l.region, s)
		}
		s = "&" + s
	}
	for strings.Contains(s, "&&") {
		s = strings.Replace(s, "&&", "& &", 1)
	}
	return s
}

// plainAsks are the constraints, of chains that are alike.
func plainAsks(a, b chain) []api.Constraint {
	var l []api.Constraint
	for i, x := range a.layers {
		if x.box {
			continue
		}
		y := b.layers[i]
		l = append(l, api.Constraint{Long: x.region, Short: y.region})
		for _, outer := range a.layers[:i] {
			if outer.mut {
				l = append(l, api.Constraint{Long: y.region, Short: x.region})
				break
			}
		}
	}
	return l
}

// plainMay tells whether t may be among so many structs.
func plainMay(structs int, t api.Type) bool {
	for range api.MaxNest {
		asked := api.Type{Kind: t.Kind}
		switch t.Kind {
		case api.TyRef:
			asked.Mut, asked.Region = t.Mut, max(t.Region, -1)
		case api.TyStruct:
			asked.Struct = min(max(t.Struct, 0), structs-1)
		}
		of := t.Of
		t.Of = nil
		if !reflect.DeepEqual(t, asked) {
			return false
		}
		switch t.Kind {
		case api.TyInt, api.TyBool, api.TyStruct:
			return len(of) == 0
		case api.TyBox, api.TyRef:
			if len(of) != 1 {
				return false
			}
			t = of[0]
		default:
			return false
		}
	}
	return false
}

func hasReference(t api.Type) bool {
	for {
		switch t.Kind {
		case api.TyRef:
			return true
		case api.TyBox:
			t = t.Of[0]
		default:
			return false
		}
	}
}

// plainStructs is Structs, word by word.
func plainStructs(s []api.Struct) (int, api.Errno) {
	if len(s) > api.MaxItems {
		return api.MaxItems, api.ErrArg
	}
	for n, x := range s {
		if len(x.Fields) == 0 || len(x.Fields) > api.MaxFields {
			return n, api.ErrArg
		}
		for _, f := range x.Fields {
			if !plainMay(len(s), f.Type) || hasReference(f.Type) {
				return n, api.ErrArg
			}
		}
	}
	if n := plainEndless(s); n >= 0 {
		return n, api.ErrArg
	}
	for n, words := range plainWords(s) {
		if words.Cmp(big.NewInt(api.MaxWords)) > 0 {
			return n, api.ErrArg
		}
	}
	return 0, api.OK
}

// plainEndless is the first struct that is endless, or -1: by which stands within which, closed.
func plainEndless(s []api.Struct) int {
	within := map[[2]int]bool{}
	for n, x := range s {
		for _, f := range x.Fields {
			if f.Type.Kind == api.TyStruct {
				within[[2]int{n, f.Type.Struct}] = true
			}
		}
	}
	for b := range s {
		for a := range s {
			for c := range s {
				if within[[2]int{a, b}] && within[[2]int{b, c}] {
					within[[2]int{a, c}] = true
				}
			}
		}
	}
	for n := range s {
		if within[[2]int{n, n}] {
			return n
		}
	}
	return -1
}

// plainWords are the structs' words: sums that are made again till none of them changes.
func plainWords(s []api.Struct) []*big.Int {
	words := make([]*big.Int, len(s))
	for n := range words {
		words[n] = new(big.Int)
	}
	for range len(s) + 1 {
		for n, x := range s {
			words[n] = new(big.Int)
			for _, f := range x.Fields {
				if f.Type.Kind == api.TyStruct {
					words[n].Add(words[n], words[f.Type.Struct])
				} else {
					words[n].Add(words[n], big.NewInt(1))
				}
			}
		}
	}
	return words
}

// plainDrops tells which structs need dropping: marks that are laid again till none comes.
func plainDrops(s []api.Struct) []bool {
	drops := make([]bool, len(s))
	for range len(s) + 1 {
		for n, x := range s {
			for _, f := range x.Fields {
				if f.Type.Kind == api.TyBox || f.Type.Kind == api.TyStruct && drops[f.Type.Struct] {
					drops[n] = true
				}
			}
		}
	}
	return drops
}

// structOf is a struct of these fields' types.
func structOf(l ...api.Type) api.Struct {
	var x api.Struct
	for _, t := range l {
		x.Fields = append(x.Fields, api.Field{Type: t})
	}
	return x
}

func repeat[T any](x T, n int) []T {
	var l []T
	for range n {
		l = append(l, x)
	}
	return l
}

// deepest are chains that are that deep: of boxes, of references of each kind, and mixed.
func deepest(deep int) []chain {
	var l []chain
	box, shared, mut, bare, bareMut := layer{box: true}, layer{region: 7}, layer{mut: true, region: 8}, layer{region: -1}, layer{mut: true, region: -1}
	for _, x := range []layer{box, shared, mut, bare, bareMut} {
		l = append(l, chain{repeat(x, deep-1), anInt})
		for _, last := range []layer{box, shared, mut, bare, bareMut} {
			l = append(l, chain{append(repeat(x, deep-2), last), nth(31)})
		}
	}
	return l
}

// allChains are all chains of up to so many layers, boxes and references of some regions, around an i64.
func allChains(most int, regions ...int) []chain {
	l := []chain{{nil, anInt}}
	last := l
	for range most {
		var longer []chain
		for _, c := range last {
			one := []layer{{box: true}}
			for _, r := range regions {
				one = append(one, layer{region: r}, layer{mut: true, region: r})
			}
			for _, x := range one {
				longer = append(longer, chain{append([]layer{x}, c.layers...), anInt})
			}
		}
		l = append(l, longer...)
		last = longer
	}
	return l
}

// chance makes chains and structs.
type chance struct{ *rand.Rand }

func byChance(seed int64) chance { return chance{rand.New(rand.NewSource(seed))} }

func (c chance) region() int {
	return []int{-1, 0, 1, 9, 10, 47, c.Intn(1000), math.MaxInt}[c.Intn(8)]
}

func (c chance) chain(most int) chain {
	x := chain{leaf: leaves[c.Intn(len(leaves))]}
	for range c.Intn(most + 1) {
		l := layer{box: c.Intn(3) == 0}
		if !l.box {
			l.mut, l.region = c.Intn(2) == 0, c.region()
		}
		x.layers = append(x.layers, l)
	}
	return x
}

// structs are structs whose fields are mostly small ones, and of structs of later or, if early is set, any numbers.
func (c chance) structs(most int, early bool) []api.Struct {
	s := make([]api.Struct, c.Intn(most+1))
	for n := range s {
		for range 1 + c.Intn(2)*c.Intn(api.MaxFields) {
			t := []api.Type{anInt, aBool, boxed(anInt), boxed(nth(c.Intn(len(s)))), boxed(boxed(nth(n)))}[c.Intn(5)]
			if n+1 < len(s) && c.Intn(3) == 0 {
				t = nth(n + 1 + c.Intn(len(s)-n-1))
			}
			if early && c.Intn(8) == 0 {
				t = nth(c.Intn(len(s)))
			}
			s[n].Fields = append(s[n].Fields, api.Field{Type: t, Name: "f"})
		}
	}
	return s
}

// wrongTypes are types that may not be among MaxItems structs, one for each reason.
func wrongTypes() []api.Type {
	l := []api.Type{
		{},
		{Kind: api.TyStruct + 1},
		{Kind: 255},
		{Of: []api.Type{anInt}},
		nth(-1), nth(api.MaxItems), nth(math.MaxInt), nth(math.MinInt),
		ref(-2, anInt), mutRef(-2, anInt), ref(math.MinInt, anInt),
		{Kind: api.TyBox}, {Kind: api.TyRef},
		{Kind: api.TyBox, Of: []api.Type{}},
		{Kind: api.TyBox, Of: []api.Type{anInt, anInt}},
		{Kind: api.TyRef, Of: []api.Type{anInt, aBool}},
		{Kind: api.TyRef, Struct: 1, Of: []api.Type{anInt}},
		{Kind: api.TyBox, Of: []api.Type{{}}},
	}
	for _, t := range []api.Type{anInt, aBool, nth(3), boxed(anInt)} {
		mut, bare, of, some := t, t, t, t
		mut.Mut, bare.Region, some.Region = true, -1, 1
		of.Of = append([]api.Type{anInt}, t.Of...)
		l = append(l, mut, bare, of, some)
		if t.Kind != api.TyStruct {
			t.Struct = 1
			l = append(l, t)
		}
	}
	for _, t := range l[:len(l):len(l)] {
		l = append(l, boxed(t), ref(0, t), mutRef(-1, boxed(t)))
	}
	for _, c := range deepest(api.MaxNest + 1) {
		l = append(l, whole(c))
	}
	return append(l, whole(chain{repeat(layer{box: true}, 5000), anInt}))
}

// copied is a type laid anew.
func copied(t api.Type) api.Type {
	if t.Of != nil {
		of := make([]api.Type, len(t.Of))
		for i := range of {
			of[i] = copied(t.Of[i])
		}
		t.Of = of
	}
	return t
}

// scratch changes all that can be changed in a type's memory.
func scratch(t api.Type) {
	for i := range t.Of {
		scratch(t.Of[i])
		t.Of[i] = api.Type{Kind: 77, Region: -9}
	}
}

func isZero(t api.Type) bool { return reflect.DeepEqual(t, api.Type{}) }

// mustBe asks for just this type.
func mustBe(t *testing.T, what string, got api.Type, e api.Errno, want api.Type) {
	t.Helper()
	if e != api.OK || !reflect.DeepEqual(got, want) {
		t.Fatalf("%s: %v, %v; want %v", what, got, e, want)
	}
}

// mustRefuse asks for ErrArg and no type.
func mustRefuse(t *testing.T, what string, got api.Type, e api.Errno) {
	t.Helper()
	if e != api.ErrArg || !isZero(got) {
		t.Fatalf("%s: %v, %v; want ErrArg", what, got, e)
	}
}

// read is the type of a text.
func read(t *testing.T, s string) api.Type {
	t.Helper()
	x, at, e := types.Read(s)
	if at != 0 || e != api.OK {
		t.Fatalf("Read(%q): at %d, %v", s, at, e)
	}
	return x
}
