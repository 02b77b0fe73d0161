package typing_test

import (
	"fmt"
	"reflect"
	"slices"
	"strings"
	"testing"

	"loanword/api"
	"loanword/lex"
	"loanword/tree"
	"loanword/types"
	"loanword/typing"
)

// wellFiles are what Of answers of files by chance that it takes.
func wellFiles(t *testing.T, seed int64, count int) []api.Typed {
	t.Helper()
	c := byChance(seed)
	var l []api.Typed
	for range count {
		if x, _, e := typing.Of(file(t, c.fileText())); e == api.OK {
			l = append(l, x)
		}
	}
	if len(l) < count/3 {
		t.Errorf("only %d of %d are taken", len(l), count)
	}
	return l
}

// P8.5: of each expression a type that may be, with no region from 0 on; of each other node the zero type.
func TestTypesMayBe(t *testing.T) {
	for _, x := range append(wellFiles(t, 85, 400), of(t, greatText())) {
		for n, y := range x.Tree.Nodes {
			is := x.Of[n]
			if !isExpression(y) {
				if !reflect.DeepEqual(is, api.Type{}) {
					t.Fatalf("%s: node %d: %v", shown(x.Tree), n, is)
				}
				continue
			}
			if !types.May(x.Decls.Structs, is) || slices.ContainsFunc(types.Regions(is), func(region int) bool { return region >= 0 }) {
				t.Fatalf("%s: node %d: %v", shown(x.Tree), n, is)
			}
		}
	}
}

// P8.5: what an NVar means is in scope there, has its name, and no later one of that name is.
func TestMeansIsInScope(t *testing.T) {
	met := 0
	for _, x := range append(wellFiles(t, 86, 60), of(t, greatText())) {
		for n, y := range x.Tree.Nodes {
			if y.Kind != api.NVar {
				continue
			}
			fn, _ := typing.Fn(x, n)
			scope, e := typing.Scope(x, n)
			var named []int
			for _, v := range scope {
				if x.Vars[fn][v].Name == y.S {
					named = append(named, v)
				}
			}
			if e != api.OK || len(named) == 0 || named[len(named)-1] != x.Means[n] || !slices.IsSorted(scope) {
				t.Fatalf("%s: node %d means %d; in scope %v", shown(x.Tree), n, x.Means[n], scope)
			}
			met++
		}
	}
	if met < 500 {
		t.Errorf("only %d names", met)
	}
}

// P8.6: a variable renamed, where it is made and wherever it is meant: its name is another one, and nothing else is.
func TestRenamed(t *testing.T) {
	for _, x := range append(wellFiles(t, 87, 60), of(t, greatText())) {
		in := make([]int, len(x.Tree.Nodes))
		for n := range in {
			in[n], _ = typing.Fn(x, n)
		}
		for fn, vars := range x.Vars {
			for v, was := range vars {
				f, _ := tree.Own(x.Tree)
				for n, y := range f.Nodes {
					if n == was.Node || in[n] == fn && y.Kind == api.NVar && x.Means[n] == v {
						f.Nodes[n].S = "another"
					}
				}
				want := again(x)
				want.Tree = f
				want.Vars[fn][v].Name = "another"
				if v < len(want.Decls.Sigs[fn].Params) {
					want.Decls.Sigs[fn].Params[v].Name = "another"
				}
				if y, at, e := typing.Of(f); e != api.OK || !reflect.DeepEqual(y, want) {
					t.Fatalf("%s: %d, %v: %v; want %v", shown(f), at, e, y, want)
				}
			}
		}
	}
}

// placeless is x with all its nodes at 0.
func placeless(x api.Typed) api.Typed {
	x.Tree, _ = tree.Own(x.Tree)
	for n := range x.Tree.Nodes {
		x.Tree.Nodes[n].At = 0
	}
	return x
}

// P8.7: brackets, blanks and comments change nothing but places; so it is of errors.
func TestBracketsAndBlanks(t *testing.T) {
	bracketed := 0
	for seed := range int64(400) {
		plainly, with, other := byChance(seed), byChance(seed), byChance(seed+1000)
		with.wrap = func(s string) string {
			depth := other.Intn(3)
			return strings.Repeat("(", depth) + s + strings.Repeat(")", depth)
		}
		s := plainly.fileText()
		variants := []string{with.fileText(), spaced(t, s, other)}
		if variants[0] != s {
			bracketed++
		}
		want, wantAt, wantE := typing.Of(file(t, s))
		for _, v := range variants {
			x, at, e := typing.Of(file(t, v))
			if at != wantAt || e != wantE {
				t.Fatalf("%q: %d, %v; %q: %d, %v", s, wantAt, wantE, v, at, e)
			}
			if !reflect.DeepEqual(placeless(x), placeless(want)) {
				t.Fatalf("%q: %v; %q: %v", s, want, v, x)
			}
		}
	}
	if bracketed < 300 {
		t.Errorf("only %d have brackets", bracketed)
	}
}

// spaced is a text with blanks and comments between its tokens.
func spaced(t *testing.T, s string, c *chance) string {
	t.Helper()
	l, at, e := lex.Lex(s)
	if e != api.OK {
		t.Fatalf("%q: at %d, %v", s, at, e)
	}
	var out strings.Builder
	for i, token := range l {
		end := len(s)
		if i+1 < len(l) {
			end = l[i+1].At
		}
		out.WriteString(strings.TrimSpace(s[token.At:end]))
		out.WriteString(c.of(" ", "\n", "  \n ", " // { let } x\n", "\t "))
	}
	return out.String()
}

// toldFn is what is told of a function, by names alone: its variables, each node's type, what each node means.
func toldFn(x api.Typed, fn int) string {
	named := func(is api.Type) string {
		s := text(is)
		for n := len(x.Decls.Structs) - 1; n >= 0; n-- {
			s = strings.ReplaceAll(s, fmt.Sprint("#", n), x.Decls.Structs[n].Name)
		}
		return s
	}
	begin := x.Decls.Sigs[fn].Node
	var l []string
	for _, v := range x.Vars[fn] {
		l = append(l, fmt.Sprint(v.Name, " ", named(v.Type), " ", v.Node-begin))
	}
	for n := begin; n < len(x.Of) && (n == begin || x.Tree.Nodes[n].Kind != api.NFn && x.Tree.Nodes[n].Kind != api.NStruct); n++ {
		means := fmt.Sprint(x.Means[n])
		switch x.Tree.Nodes[n].Kind {
		case api.NCall:
			means = x.Decls.Sigs[x.Means[n]].Name
		case api.NMake:
			means = x.Decls.Structs[x.Means[n]].Name
		}
		l = append(l, named(x.Of[n])+" "+means)
	}
	return strings.Join(l, "; ")
}

// P8.7: items in another order: the same types, but for numbers.
func TestAnotherOrder(t *testing.T) {
	c := byChance(88)
	for _, x := range append(wellFiles(t, 89, 500), of(t, greatText())) {
		var items []api.Tree
		for _, i := range c.Perm(len(x.Tree.Nodes[0].L)) {
			item, _ := tree.Sub(x.Tree, x.Tree.Nodes[0].L[i])
			items = append(items, item)
		}
		f, _ := tree.Join(x.Tree.Nodes[0], items...)
		y, at, e := typing.Of(f)
		if e != api.OK || at != 0 {
			t.Fatalf("%s: %d, %v", shown(f), at, e)
		}
		for fn, s := range x.Decls.Sigs {
			other := slices.IndexFunc(y.Decls.Sigs, func(o api.Sig) bool { return o.Name == s.Name })
			if a, b := toldFn(x, fn), toldFn(y, other); a != b {
				t.Fatalf("%s: %s; %s: %s", shown(x.Tree), a, shown(f), b)
			}
		}
	}
}

// P8.7: what stands behind the function of the error left out (where nobody ahead names it): the same error at the same node.
func TestBehindLeftOut(t *testing.T) {
	c := byChance(90)
	met := 0
	for range 2500 {
		f := c.damaged(file(t, c.fileText()))
		_, at, e := typing.Of(f)
		if e < api.ErrVar && e != api.ErrNest {
			continue
		}
		var kept []api.Tree
		var behind []string
		for _, item := range f.Nodes[0].L {
			if item <= at {
				sub, _ := tree.Sub(f, item)
				kept = append(kept, sub)
				continue
			}
			behind = append(behind, f.Nodes[item].S)
		}
		cut, _ := tree.Join(f.Nodes[0], kept...)
		names := func(x api.Node) bool { return slices.Contains(behind, x.S) && x.S != "" }
		hasMain := slices.ContainsFunc(cut.Nodes, func(x api.Node) bool { return x.Kind == api.NFn && x.S == "main" })
		if len(behind) == 0 || !hasMain || slices.ContainsFunc(cut.Nodes, names) {
			continue
		}
		met++
		if x, atCut, eCut := typing.Of(cut); atCut != at || eCut != e || !reflect.DeepEqual(x, api.Typed{}) {
			t.Fatalf("%s: %d, %v; then %d, %v", shown(f), at, e, atCut, eCut)
		}
	}
	if met < 50 {
		t.Errorf("only %d are cut", met)
	}
}
