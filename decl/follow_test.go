package decl_test

import (
	"reflect"
	"slices"
	"strings"
	"testing"

	"loanword/api"
	"loanword/decl"
	"loanword/tree"
	"loanword/types"
)

// wellFiles are trees by chance that Of takes.
func wellFiles(t *testing.T, seed int64, count int) []api.Tree {
	c := byChance(seed)
	var l []api.Tree
	for range count {
		f := file(t, c.fileText())
		if _, _, e := decl.Of(f); e == api.OK {
			l = append(l, f)
		}
	}
	if len(l) < count/5 {
		t.Errorf("only %d of %d are taken", len(l), count)
	}
	return l
}

// P7.5: whatever two of it say together it says, and it has all that is implied; it is sorted.
func TestOutlivesIsClosed(t *testing.T) {
	said := 0
	for _, f := range wellFiles(t, 75, 3000) {
		d, _, _ := decl.Of(f)
		for _, s := range d.Sigs {
			for a := range s.Count {
				for b := range s.Count {
					for c := range s.Count {
						if decl.Outlives(s, c, b) && decl.Outlives(s, b, a) && !decl.Outlives(s, c, a) {
							t.Fatalf("%s: %d > %d > %d", toldSig(s), c, b, a)
						}
					}
				}
			}
			mustImply(t, s, s.Answer)
			for _, p := range s.Params {
				mustImply(t, s, p.Type)
			}
			if !slices.IsSortedFunc(s.Outlives, func(a, b api.Outlives) int { return (a.Long-b.Long)*1000 + a.Short - b.Short }) {
				t.Fatalf("%s: not sorted", toldSig(s))
			}
			said += len(s.Outlives)
		}
	}
	if said < 1000 {
		t.Errorf("only %d are said", said)
	}
}

// mustImply asks that all lifetimes behind a reference of x outlive its own.
func mustImply(t *testing.T, s api.Sig, x api.Type) {
	t.Helper()
	for ; len(x.Of) > 0; x = x.Of[0] {
		if x.Kind != api.TyRef {
			continue
		}
		for _, long := range types.Regions(x.Of[0]) {
			if !decl.Outlives(s, long, x.Region) {
				t.Fatalf("%s: %d > %d is implied", toldSig(s), long, x.Region)
			}
		}
	}
}

// withBound is a file with one bound more: of the lifetime at node life, to the one of this name.
func withBound(t *testing.T, f api.Tree, life int, name string) api.Tree {
	t.Helper()
	bound, _ := tree.Join(api.Node{Kind: api.NBound, S: name})
	var rebuilt func(n int) api.Tree
	rebuilt = func(n int) api.Tree {
		var children []api.Tree
		for _, c := range f.Nodes[n].L {
			children = append(children, rebuilt(c))
		}
		if n == life {
			children = append(children, bound)
		}
		x, e := tree.Join(f.Nodes[n], children...)
		if e != api.OK {
			t.Fatal(e)
		}
		return x
	}
	return rebuilt(0)
}

// P7.5: with one bound more Outlives has no less: just what follows of it and the bound; all else is as it was, but for nodes.
func TestOneBoundMore(t *testing.T) {
	tried := 0
	for _, f := range wellFiles(t, 76, 600) {
		before, _, _ := decl.Of(f)
		for n, s := range before.Sigs {
			for long := range s.Lives {
				for short, name := range s.Lives {
					after, _, e := decl.Of(withBound(t, f, f.Nodes[s.Node].L[long], name))
					if e != api.OK {
						t.Fatalf("%s: %v", toldSig(s), e)
					}
					said := map[api.Outlives]bool{{Long: long, Short: short}: true}
					for _, o := range s.Outlives {
						said[o] = true
						if !decl.Outlives(after.Sigs[n], o.Long, o.Short) {
							t.Fatalf("%s: %v is gone", toldSig(after.Sigs[n]), o)
						}
					}
					if want := sorted(followed(said)); !slices.Equal(after.Sigs[n].Outlives, want) {
						t.Fatalf("%s and %d>%d: %s", toldSig(s), long, short, toldSig(after.Sigs[n]))
					}
					after.Sigs[n].Outlives = s.Outlives
					if told(after) != told(before) {
						t.Fatalf("%s, then %s", told(before), told(after))
					}
					tried++
				}
			}
		}
	}
	if tried < 500 {
		t.Errorf("only %d were tried", tried)
	}
}

// renamed is a name under which each name has one of its own; main stays, and none of the language becomes one.
func renamed(s string) string {
	if s == "" || s == "main" {
		return s
	}
	switch s {
	case "a":
		return "b"
	case "b":
		return "a"
	}
	return s[:1] + "_" + s[1:] + "9"
}

// P7.6: all names renamed: the names are, and nothing else; what is at fault stays so.
func TestRenaming(t *testing.T) {
	c := byChance(77)
	met := map[api.Errno]int{}
	for range 2000 {
		f := file(t, c.fileText())
		want, wantAt, wantE := decl.Of(f)
		for n, x := range f.Nodes {
			switch x.Kind {
			case api.NStruct, api.NFn, api.NField, api.NParam, api.NLife, api.NBound, api.NTyName, api.NTyRef:
				f.Nodes[n].S = renamed(x.S)
			}
		}
		for i := range want.Structs {
			s := &want.Structs[i]
			s.Name = renamed(s.Name)
			for j := range s.Fields {
				s.Fields[j].Name = renamed(s.Fields[j].Name)
			}
		}
		for i := range want.Sigs {
			s := &want.Sigs[i]
			s.Name = renamed(s.Name)
			for j := range s.Lives {
				s.Lives[j] = renamed(s.Lives[j])
			}
			for j := range s.Params {
				s.Params[j].Name = renamed(s.Params[j].Name)
			}
		}
		d, at, e := decl.Of(f)
		if at != wantAt || e != wantE || !reflect.DeepEqual(d, want) {
			t.Fatalf("%s, %d, %v; want %s, %d, %v", told(d), at, e, told(want), wantAt, wantE)
		}
		met[e]++
	}
	if met[api.OK] < 500 || met[api.ErrTwice] < 20 || met[api.ErrName] < 20 {
		t.Errorf("%v", met)
	}
}

// P7.6: one name renamed: it is, and nothing else.
func TestRenamingOne(t *testing.T) {
	const s = "struct S { a: Box<S>, b: T } struct T { a: i64 } fn f<'a, 'b: 'a>(a: &'a S, b: &'b T) -> &'b i64 { } fn g<'a>(a: &'a &i64) -> Box<T> { }" + end
	before := told(of(t, s))
	for _, c := range []struct{ from, to, was, is string }{
		{"S", "Z", "S{", "Z{"},
		{"T", "A", "T{", "A{"},
		{"fn f", "fn z", "f<", "z<"},
		{"fn g", "fn a", "g<", "a<"},
		{"b: T", "z: T", "b:#1", "z:#1"},
		{"a: i64", "b: i64", "{a:i64", "{b:i64"},
		{"b: &'b", "s: &'b", "b:&'1", "s:&'1"},
		{"a: &'a &", "b: &'a &", "a:&'0 &", "b:&'0 &"},
		{"'b", "'z", "a b>", "a z>"},
		{"<'a>(a: &'a", "<'b>(a: &'b", "g<a>", "g<b>"},
	} {
		if d := of(t, strings.ReplaceAll(s, c.from, c.to)); told(d) != strings.Replace(before, c.was, c.is, 1) || told(d) == before {
			t.Errorf("%q for %q: %s, then %s", c.to, c.from, before, told(d))
		}
	}
}

// P7.6: items in another order: the same, with other numbers.
func TestAnotherOrder(t *testing.T) {
	c := byChance(78)
	for _, f := range wellFiles(t, 79, 1500) {
		d, _, _ := decl.Of(f)
		var items []api.Tree
		for _, i := range c.Perm(len(f.Nodes[0].L)) {
			item, _ := tree.Sub(f, f.Nodes[0].L[i])
			items = append(items, item)
		}
		other, e := tree.Join(f.Nodes[0], items...)
		if e != api.OK {
			t.Fatal(e)
		}
		after, at, e := decl.Of(other)
		if e != api.OK || at != 0 || len(after.Structs) != len(d.Structs) || len(after.Sigs) != len(d.Sigs) {
			t.Fatalf("%s: %s, %d, %v", told(d), told(after), at, e)
		}
		// Each struct by its name: then nothing hangs on numbers.
		if a, b := byName(d), byName(after); !slices.Equal(a, b) {
			t.Fatalf("%q, then %q", a, b)
		}
		for _, s := range after.Sigs {
			if x := other.Nodes[s.Node]; x.Kind != api.NFn || x.S != s.Name {
				t.Fatalf("node %d of %s", s.Node, toldSig(s))
			}
		}
	}
}

// byName is each item as a text with names for structs' numbers, sorted.
func byName(d api.Decls) []string {
	var l []string
	for _, s := range d.Structs {
		l = append(l, s.Name+"{"+toldFields(s.Fields)+"}")
	}
	for _, s := range d.Sigs {
		l = append(l, toldSig(s))
	}
	for i := range l {
		for n, s := range d.Structs {
			l[i] = strings.ReplaceAll(l[i], "#"+string(rune('0'+n)), s.Name)
		}
	}
	slices.Sort(l)
	return l
}
