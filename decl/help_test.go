package decl_test

import (
	"fmt"
	"math/rand"
	"reflect"
	"sort"
	"strings"
	"testing"

	"loanword/api"
	"loanword/decl"
	"loanword/parse"
	"loanword/tree"
	"loanword/types"
)

// end is a main as it must be, for files whose other items are looked at.
const end = " fn main() -> i64 { return 0; }"

// file is the tree of a text.
func file(t *testing.T, s string) api.Tree {
	t.Helper()
	f, at, e := parse.File(s)
	if e != api.OK {
		t.Fatalf("%q: at %d, %v", s, at, e)
	}
	return f
}

// marked is the tree of a text without its mark @, and the first node but the root that stands where the mark was; 0, if there is none.
func marked(t *testing.T, s string) (api.Tree, int) {
	t.Helper()
	place := strings.Index(s, "@")
	f := file(t, strings.Replace(s, "@", "", 1))
	if place < 0 {
		return f, 0
	}
	for n, x := range f.Nodes {
		if n > 0 && x.At == place {
			return f, n
		}
	}
	t.Fatalf("%q: no node stands at the mark", s)
	return f, 0
}

// of is what Of answers of a text that it takes.
func of(t *testing.T, s string) api.Decls {
	t.Helper()
	d, at, e := decl.Of(file(t, s))
	if e != api.OK || at != 0 {
		t.Fatalf("%q: at %d, %v", s, at, e)
	}
	return d
}

// typ is the type of a text of layer 6.
func typ(s string) api.Type {
	x, _, e := types.Read(s)
	if e != api.OK {
		panic(s)
	}
	return x
}

func text(x api.Type) string {
	s, e := types.Text(x)
	if e != api.OK {
		return fmt.Sprint(x)
	}
	return s
}

// told is declarations as a text, but for nodes: S{a:i64}; f<a b>2(x:&'0 i64)&'0 i64[1>0].
func told(d api.Decls) string {
	var l []string
	for _, s := range d.Structs {
		l = append(l, s.Name+"{"+toldFields(s.Fields)+"}")
	}
	for _, s := range d.Sigs {
		l = append(l, toldSig(s))
	}
	return strings.Join(l, "; ")
}

func toldSig(s api.Sig) string {
	var l []string
	for _, o := range s.Outlives {
		l = append(l, fmt.Sprintf("%d>%d", o.Long, o.Short))
	}
	return fmt.Sprintf("%s<%s>%d(%s)%s[%s]", s.Name, strings.Join(s.Lives, " "), s.Count, toldFields(s.Params), text(s.Answer), strings.Join(l, " "))
}

func toldFields(l []api.Field) string {
	var s []string
	for _, f := range l {
		s = append(s, f.Name+":"+text(f.Type))
	}
	return strings.Join(s, ", ")
}

// plainOf is Of, word by word: each thing is asked of each node by going over all of them.
func plainOf(t api.Tree) (api.Decls, int, api.Errno) {
	if !tree.May(t) || t.Nodes[0].Kind != api.NFile {
		return api.Decls{}, 0, api.ErrArg
	}
	p := plain{nodes: t.Nodes}
	p.up, _ = tree.Up(t)
	for _, ask := range []func(n int) (int, api.Errno){p.long, p.name, p.endless, p.large, p.lives} {
		for n := range p.nodes {
			if at, e := ask(n); e != api.OK {
				return api.Decls{}, at, e
			}
		}
	}
	if at, e := p.main(); e != api.OK {
		return api.Decls{}, at, e
	}
	return p.all(), 0, api.OK
}

// plain is a file's nodes and their parents.
type plain struct {
	nodes []api.Node
	up    []int
}

// all of a kind below a node, right below it or not.
func (p plain) below(n int, kind api.NodeKind) []int {
	var l []int
	for m, x := range p.nodes {
		if x.Kind == kind && p.within(m, n) {
			l = append(l, m)
		}
	}
	return l
}

// within: n is m's parent, or its parent's, and so on.
func (p plain) within(m, n int) bool {
	for m = p.up[m]; m >= 0; m = p.up[m] {
		if m == n {
			return true
		}
	}
	return false
}

func (p plain) long(n int) (int, api.Errno) {
	kind := p.nodes[n].Kind
	if kind != api.NStruct && kind != api.NFn {
		return 0, api.OK
	}
	earlier := 0
	for _, m := range p.below(0, kind) {
		if m < n {
			earlier++
		}
	}
	if earlier >= api.MaxItems {
		return n, api.ErrLong
	}
	return 0, api.OK
}

// stands is the node of which a type's node n is part: an NField, an NParam, an NFn, an NLet.
func (p plain) stands(n int) int {
	for n = p.up[n]; n >= 0; n = p.up[n] {
		if k := p.nodes[n].Kind; k < api.NTyInt || k > api.NTyName {
			return n
		}
	}
	return n
}

func (p plain) fn(n int) int {
	for p.nodes[n].Kind != api.NFn {
		n = p.up[n]
	}
	return n
}

// has: is there a node of that kind and name right below another one?
func (p plain) has(parent int, kind api.NodeKind, name string) bool {
	for _, m := range p.nodes[parent].L {
		if p.nodes[m].Kind == kind && p.nodes[m].S == name {
			return true
		}
	}
	return false
}

func (p plain) name(n int) (int, api.Errno) {
	x := p.nodes[n]
	switch x.Kind {
	case api.NStruct, api.NFn, api.NField, api.NParam, api.NLife:
		for m := range n {
			if p.nodes[m].Kind == x.Kind && p.nodes[m].S == x.S && p.up[m] == p.up[n] {
				return n, api.ErrTwice
			}
		}
	case api.NTyName:
		if p.nodes[p.stands(n)].Kind != api.NLet && !p.has(0, api.NStruct, x.S) {
			return n, api.ErrName
		}
	case api.NBound:
		if !p.has(p.fn(n), api.NLife, x.S) {
			return n, api.ErrName
		}
	case api.NTyRef:
		switch p.nodes[p.stands(n)].Kind {
		case api.NField:
			return n, api.ErrFieldRef
		case api.NParam, api.NFn:
			if x.S != "" && !p.has(p.fn(n), api.NLife, x.S) {
				return n, api.ErrName
			}
		}
	}
	return 0, api.OK
}

// inside are the names of the structs that stand in a struct's fields, not within a box.
func (p plain) inside(name string) []string {
	var l []string
	for n, x := range p.nodes {
		if x.Kind == api.NTyName && p.nodes[p.up[n]].Kind == api.NField && p.nodes[p.up[p.up[n]]].S == name {
			l = append(l, x.S)
		}
	}
	return l
}

func (p plain) endless(n int) (int, api.Errno) {
	if p.nodes[n].Kind != api.NStruct {
		return 0, api.OK
	}
	todo, met := p.inside(p.nodes[n].S), map[string]bool{}
	for len(todo) > 0 {
		name := todo[0]
		todo = todo[1:]
		if name == p.nodes[n].S {
			return n, api.ErrEndless
		}
		if !met[name] {
			met[name] = true
			todo = append(todo, p.inside(name)...)
		}
	}
	return 0, api.OK
}

func (p plain) large(n int) (int, api.Errno) {
	if p.nodes[n].Kind != api.NStruct || p.words(p.nodes[n].S, map[string]float64{}) <= api.MaxWords {
		return 0, api.OK
	}
	return n, api.ErrLarge
}

// words are counted by floats: there may be 8 to the 32nd power.
func (p plain) words(name string, known map[string]float64) float64 {
	if known[name] == 0 {
		for _, n := range p.nodes[0].L {
			if p.nodes[n].Kind == api.NStruct && p.nodes[n].S == name {
				inside := p.inside(name)
				known[name] = float64(len(p.nodes[n].L) - len(inside))
				for _, other := range inside {
					known[name] += p.words(other, known)
				}
			}
		}
	}
	return known[name]
}

// head are the references of a function's parameters, and of its answer.
func (p plain) head(fn int) (params, answer []int) {
	for _, n := range p.below(fn, api.NTyRef) {
		switch p.nodes[p.stands(n)].Kind {
		case api.NParam:
			params = append(params, n)
		case api.NFn:
			answer = append(answer, n)
		}
	}
	return params, answer
}

// numbers tells of each reference of a function's parameters and answer its lifetime (-1: it is not said which), and how many lifetimes there are.
func (p plain) numbers(fn int) (map[int]int, int) {
	var names []string
	for _, n := range p.below(fn, api.NLife) {
		names = append(names, p.nodes[n].S)
	}
	of, next := map[int]int{}, len(names)
	place := func(name string) int {
		for i, s := range names {
			if s == name {
				return i
			}
		}
		return -1
	}
	params, answer := p.head(fn)
	stand := map[int]bool{}
	for _, n := range params {
		of[n] = place(p.nodes[n].S)
		if p.nodes[n].S == "" {
			of[n] = next
			next++
		}
		stand[of[n]] = true
	}
	for _, n := range answer {
		of[n] = place(p.nodes[n].S)
		for life := range stand {
			if p.nodes[n].S == "" && len(stand) == 1 {
				of[n] = life
			}
		}
	}
	return of, next
}

func (p plain) lives(n int) (int, api.Errno) {
	if p.nodes[n].Kind != api.NFn {
		return 0, api.OK
	}
	of, count := p.numbers(n)
	_, answer := p.head(n)
	for _, ref := range answer {
		if of[ref] < 0 {
			return ref, api.ErrElide
		}
	}
	if count > api.MaxLives {
		return n, api.ErrLong
	}
	return 0, api.OK
}

func (p plain) main() (int, api.Errno) {
	for _, n := range p.below(0, api.NFn) {
		x := p.nodes[n]
		if x.S != "main" {
			continue
		}
		if len(x.L) == 2 && p.nodes[x.L[0]].Kind == api.NTyInt {
			return 0, api.OK
		}
		return n, api.ErrMain
	}
	return 0, api.ErrMain
}

// typeAt is the type at a node, from its innermost node out.
func (p plain) typeAt(n int, of map[int]int) api.Type {
	last := n
	for len(p.nodes[last].L) > 0 {
		last++
	}
	x := api.Type{Kind: map[api.NodeKind]api.TypeKind{api.NTyInt: api.TyInt, api.NTyBool: api.TyBool, api.NTyName: api.TyStruct}[p.nodes[last].Kind]}
	for i, s := range p.below(0, api.NStruct) {
		if x.Kind == api.TyStruct && p.nodes[s].S == p.nodes[last].S {
			x.Struct = i
		}
	}
	for last--; last >= n; last-- {
		if p.nodes[last].Kind == api.NTyBox {
			x = api.Type{Kind: api.TyBox, Of: []api.Type{x}}
		} else {
			x = api.Type{Kind: api.TyRef, Mut: p.nodes[last].N == 1, Region: of[last], Of: []api.Type{x}}
		}
	}
	return x
}

func (p plain) fields(n int, kind api.NodeKind, of map[int]int) []api.Field {
	var l []api.Field
	for _, m := range p.below(n, kind) {
		l = append(l, api.Field{Name: p.nodes[m].S, Type: p.typeAt(m+1, of)})
	}
	return l
}

// outlives is all that is declared and implied, to which what follows is added as long as something follows.
func (p plain) outlives(fn int, of map[int]int) []api.Outlives {
	said := map[api.Outlives]bool{}
	lives := p.below(fn, api.NLife)
	for long, life := range lives {
		for short, other := range lives {
			if p.has(life, api.NBound, p.nodes[other].S) {
				said[api.Outlives{Long: long, Short: short}] = true
			}
		}
	}
	for inner, long := range of {
		for outer, short := range of {
			if p.within(inner, outer) {
				said[api.Outlives{Long: long, Short: short}] = true
			}
		}
	}
	return sorted(followed(said))
}

// followed is what is said with all that follows of it.
func followed(said map[api.Outlives]bool) map[api.Outlives]bool {
	for {
		var more []api.Outlives
		for a := range said {
			for b := range said {
				if c := (api.Outlives{Long: a.Long, Short: b.Short}); a.Short == b.Long && !said[c] {
					more = append(more, c)
				}
			}
		}
		if len(more) == 0 {
			return said
		}
		for _, o := range more {
			said[o] = true
		}
	}
}

// sorted is what is said of two lifetimes that are not the same.
func sorted(said map[api.Outlives]bool) []api.Outlives {
	var l []api.Outlives
	for o := range said {
		if o.Long != o.Short {
			l = append(l, o)
		}
	}
	sort.Slice(l, func(i, j int) bool { return l[i].Long*1000+l[i].Short < l[j].Long*1000+l[j].Short })
	return l
}

func (p plain) all() api.Decls {
	var d api.Decls
	for _, n := range p.below(0, api.NStruct) {
		d.Structs = append(d.Structs, api.Struct{Name: p.nodes[n].S, Fields: p.fields(n, api.NField, nil)})
	}
	for _, n := range p.below(0, api.NFn) {
		of, count := p.numbers(n)
		s := api.Sig{Name: p.nodes[n].S, Count: count, Node: n, Params: p.fields(n, api.NParam, of), Outlives: p.outlives(n, of)}
		for _, life := range p.below(n, api.NLife) {
			s.Lives = append(s.Lives, p.nodes[life].S)
		}
		s.Answer = p.typeAt(p.nodes[n].L[len(p.nodes[n].L)-2], of)
		d.Sigs = append(d.Sigs, s)
	}
	return d
}

// mustHold holds Of of a tree against what is said of it, and what it answers against May.
func mustHold(t *testing.T, f api.Tree) (api.Decls, api.Errno) {
	t.Helper()
	want, wantAt, wantE := plainOf(f)
	d, at, e := decl.Of(f)
	if at != wantAt || e != wantE || !reflect.DeepEqual(d, want) {
		t.Fatalf("%v: %s, %d, %v; want %s, %d, %v", f.Nodes, told(d), at, e, told(want), wantAt, wantE)
	}
	if decl.May(d) != (e == api.OK) {
		t.Fatalf("May(%s): %v", told(d), e != api.OK)
	}
	return d, e
}

// chance makes texts.
type chance struct{ *rand.Rand }

func byChance(seed int64) chance { return chance{rand.New(rand.NewSource(seed))} }

func (c chance) of(l ...string) string { return l[c.Intn(len(l))] }

// some are names out of a list, each once, in any order; seldom one twice.
func (c chance) some(most int, l ...string) []string {
	var names []string
	for _, i := range c.Perm(len(l))[:c.Intn(min(most, len(l))+1)] {
		names = append(names, l[i])
	}
	if len(names) > 0 && c.Intn(40) == 0 {
		names = append(names, names[c.Intn(len(names))])
	}
	return names
}

// typeText is a type with up to so many layers, of these lifetimes and structs.
func (c chance) typeText(most int, refs bool, lives, structs []string) string {
	if len(structs) > 0 && c.Intn(60) == 0 {
		structs = []string{"Q"}
	}
	s := c.of(append([]string{"i64", "bool", "i64"}, structs...)...)
	for range c.Intn(most + 1) {
		if !refs || c.Intn(4) == 0 {
			s = "Box<" + s + ">"
			continue
		}
		life := ""
		if len(lives) > 0 && c.Intn(3) > 0 {
			life = "'" + c.of(lives...) + " "
		}
		if c.Intn(80) == 0 {
			life = "'z "
		}
		s = "& " + life + c.of("", "mut ") + s
	}
	return s
}

func (c chance) structText(name string, structs []string) string {
	fields := c.some(7, "a", "b", "c", "d", "e", "f", "g")
	if len(fields) == 0 {
		fields = []string{"x"}
	}
	for i, f := range fields {
		// Mostly structs that stand later, so that few stand within themselves.
		var some []string
		for _, s := range structs {
			if s > name && c.Intn(3) == 0 || c.Intn(30) == 0 {
				some = append(some, s)
			}
		}
		fields[i] = f + ": " + c.typeText(0, false, nil, some)
		if c.Intn(3) == 0 {
			fields[i] = f + ": Box<" + c.typeText(2, c.Intn(80) == 0, nil, structs) + ">"
		}
	}
	return "struct " + name + " { " + strings.Join(fields, ", ") + " }"
}

func (c chance) fnText(name string, structs []string) string {
	lives := c.some(4, "a", "b", "c", "d", "x")
	if name == "main" && c.Intn(30) > 0 {
		return "fn main() -> " + c.of("i64", "i64", "i64", "i64", "i64", "i64", "i64", "i64", "i64", "bool", "& i64") + " { let x: Q = 1; return 0; }"
	}
	declared := make([]string, len(lives))
	for i, life := range lives {
		declared[i] = "'" + life
		for j := range c.Intn(3) * c.Intn(2) {
			declared[i] += []string{": ", " + "}[min(j, 1)] + "'" + c.of(lives...)
		}
	}
	s := "fn " + name
	if len(lives) > 0 {
		s += "<" + strings.Join(declared, ", ") + ">"
	}
	params := c.some(4, "a", "b", "x", "y", "z")
	for i, p := range params {
		params[i] = p + ": " + c.typeText(3+c.Intn(3), true, lives, structs)
	}
	answer := c.typeText(2, true, lives, structs)
	if c.Intn(3) > 0 {
		answer = c.of("i64", "bool", "Box<i64>")
	}
	return s + "(" + strings.Join(params, ", ") + ") -> " + answer + " { let q: & 'y Q = 1; { let main: Q = 2; } return x; }"
}

// fileText is a file of some items, most of which may be.
func (c chance) fileText() string {
	structs, fns := c.some(4, "P", "S", "T", "U", "V"), c.some(4, "f", "g", "h", "k")
	if c.Intn(30) > 0 {
		fns = append(fns, "main")
	}
	var items []string
	for _, name := range structs {
		items = append(items, c.structText(name, structs))
	}
	for _, name := range fns {
		items = append(items, c.fnText(name, structs))
	}
	c.Shuffle(len(items), func(i, j int) { items[i], items[j] = items[j], items[i] })
	return strings.Join(items, " ")
}
