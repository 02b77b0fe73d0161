package decl_test

import (
	"reflect"
	"strings"
	"testing"

	"loanword/api"
	"loanword/decl"
	"loanword/parse"
	"loanword/tree"
)

const twoStructs = "struct S { a: i64 } struct T { b: Box<S> }" + end

// P7.2: types, and where a name is of nothing.
func TestTypes(t *testing.T) {
	d := of(t, twoStructs)
	for _, c := range []struct {
		s, lives, want string
		at             int
	}{
		{"i64", "", "i64", 0},
		{"bool", "", "bool", 0},
		{"S", "", "#0", 0},
		{"Box<Box<T>>", "", "Box<Box<#1>>", 0},
		{"&i64", "", "&i64", 0},
		{"&i64", "a b", "&i64", 0},
		{"& &mut T", "a", "& &mut #1", 0},
		{"&'a i64", "a", "&'0 i64", 0},
		{"&'b mut &'a &S", "a b", "&'1 mut &'0 &#0", 0},
		{"&'b mut &'a &S", "b a", "&'0 mut &'1 &#0", 0},
		{"&'b Box<&'a i64>", "a b a b", "&'1 Box<&'0 i64>", 0},
		{"&'x i64", "y y z x x", "&'3 i64", 0},
		{"&'k i64", "a b c d e f g h i j k l", "&'10 i64", 0},
		{"Q", "", "", 0},
		{"Box<Q>", "Q", "", 1},
		{"&'a i64", "", "", 0},
		{"&'a i64", "b A aa", "", 0},
		{"&'a &'b i64", "a", "", 1},
		{"&'a &'b i64", "b", "", 0},
		{"&'a Box<Box<&'b Q>>", "a", "", 3},
		{"&'a Box<Box<&'b Q>>", "a b", "", 4},
		{"& Q", "a b", "", 1},
	} {
		f, _, e := parse.Type(c.s)
		if e != api.OK {
			t.Fatal(c.s, e)
		}
		x, at, e := decl.Type(f, 0, d, strings.Fields(c.lives))
		wantE := api.OK
		if c.want == "" {
			wantE = api.ErrName
		}
		if e != wantE || at != c.at || e == api.OK && text(x) != c.want || e != api.OK && !reflect.DeepEqual(x, api.Type{}) {
			t.Errorf("%s with %s: %s, %d, %v; want %s, %d", c.s, c.lives, text(x), at, e, c.want, c.at)
		}
	}
}

// plainType is Type of a tree, a node and declarations that may be: layer by layer.
func plainType(f api.Tree, n int, d api.Decls, lives []string) (string, int, api.Errno) {
	before, behind := "", ""
	for ; ; n++ {
		x := f.Nodes[n]
		switch x.Kind {
		case api.NTyInt:
			return before + "i64" + behind, 0, api.OK
		case api.NTyBool:
			return before + "bool" + behind, 0, api.OK
		case api.NTyBox:
			before, behind = before+"Box<", behind+">"
		case api.NTyName:
			for i, s := range d.Structs {
				if s.Name == x.S {
					return before + "#" + string(rune('0'+i)) + behind, 0, api.OK
				}
			}
			return "", n, api.ErrName
		case api.NTyRef:
			if strings.HasSuffix(before, "&") {
				before += " "
			}
			before += "&"
			place := -1
			for i := len(lives) - 1; i >= 0; i-- {
				if lives[i] == x.S {
					place = i
				}
			}
			if x.S != "" && place < 0 {
				return "", n, api.ErrName
			}
			if x.S != "" {
				before += "'" + string(rune('0'+place)) + " "
			}
			if x.N == 1 {
				before += "mut "
			}
		}
	}
}

func isType(k api.NodeKind) bool { return k >= api.NTyInt && k <= api.NTyName }

// P7.2: each node of files by chance, with lifetimes by chance: types are told, all other nodes are refused.
func TestTypesByChance(t *testing.T) {
	c := byChance(72)
	met := map[api.Errno]int{}
	for range 400 {
		f := file(t, c.fileText())
		d := of(t, twoStructs)
		if c.Intn(2) == 0 {
			d = of(t, "struct P { a: i64 } struct S { a: i64 } struct T { a: i64 } struct U { a: i64 } struct V { a: i64 }"+end)
		}
		lives := c.some(5, "a", "b", "c", "d", "x", "y", "", "S", "&")
		for n, node := range f.Nodes {
			x, at, e := decl.Type(f, n, d, lives)
			met[e]++
			if !isType(node.Kind) {
				if e != api.ErrArg || at != 0 || !reflect.DeepEqual(x, api.Type{}) {
					t.Fatalf("%v, node %d: %v, %d, %v", f.Nodes, n, x, at, e)
				}
				continue
			}
			want, wantAt, wantE := plainType(f, n, d, lives)
			if at != wantAt || e != wantE || e == api.OK && text(x) != want || e != api.OK && !reflect.DeepEqual(x, api.Type{}) {
				t.Fatalf("%v, node %d, lives %q: %s, %d, %v; want %s, %d, %v", f.Nodes, n, lives, text(x), at, e, want, wantAt, wantE)
			}
		}
	}
	if met[api.OK] < 500 || met[api.ErrName] < 500 {
		t.Errorf("%v", met)
	}
}

// P7.2: a reference without a lifetime has none, though an empty text stands among the lives.
func TestTypeEmptyLife(t *testing.T) {
	f, _, _ := parse.Type("& &'a i64")
	if x, at, e := decl.Type(f, 0, of(t, twoStructs), []string{"", "b", "a"}); e != api.OK || at != 0 || text(x) != "& &'2 i64" {
		t.Errorf("%s, %d, %v", text(x), at, e)
	}
}

// P7.2: a type as deep as a tree may be.
func TestTypeDeepest(t *testing.T) {
	f, _, e := parse.Type(strings.Repeat("&'a ", api.MaxNest-1) + "T")
	if e != api.OK {
		t.Fatal(e)
	}
	x, _, e := decl.Type(f, 0, of(t, twoStructs), []string{"b", "a"})
	if want := strings.Repeat("&'1 ", api.MaxNest-1) + "#1"; e != api.OK || text(x) != want {
		t.Errorf("%s, %v", text(x), e)
	}
	if _, at, e := decl.Type(f, 40, of(t, end), []string{"a"}); e != api.ErrName || at != api.MaxNest-1 {
		t.Errorf("%d, %v", at, e)
	}
}

// P7.2: ErrArg at 0, ahead of ErrName: a tree that may not be, a node that is none or no type's, declarations that may not be.
func TestTypeWrong(t *testing.T) {
	well := of(t, twoStructs)
	f := file(t, "fn f(x: & Q) -> Q { let y: &'a Q; return x; }")
	refuse := func(what string, f api.Tree, n int, d api.Decls) {
		t.Helper()
		for _, lives := range [][]string{nil, {"a"}} {
			if x, at, e := decl.Type(f, n, d, lives); e != api.ErrArg || at != 0 || !reflect.DeepEqual(x, api.Type{}) {
				t.Errorf("%s, node %d: %v, %d, %v", what, n, x, at, e)
			}
		}
	}
	for _, n := range []int{-1, -1 << 63, len(f.Nodes), 1<<63 - 1, 0, 1, 2} {
		refuse("a file", f, n, well)
	}
	for n, x := range f.Nodes {
		if isType(x.Kind) {
			refuse("without main", f, n, api.Decls{})
			if _, _, e := decl.Type(f, n, well, nil); e != api.ErrName {
				t.Errorf("node %d: %v", n, e)
			}
		}
	}
	one, _, _ := parse.Type("i64")
	for _, d := range wrongDecls(t) {
		refuse("wrong declarations", one, 0, d.d)
	}
	for _, f := range noFiles(t) {
		if tree.May(f) {
			continue
		}
		for n, x := range f.Nodes {
			if isType(x.Kind) {
				refuse("wrong trees", f, n, well)
			}
		}
	}
}
