package decl_test

import (
	"reflect"
	"testing"

	"loanword/api"
	"loanword/decl"
	"loanword/tree"
)

// copied is declarations laid anew.
func copied(d api.Decls) api.Decls {
	var c api.Decls
	for _, s := range d.Structs {
		c.Structs = append(c.Structs, api.Struct{Name: s.Name, Fields: copiedFields(s.Fields)})
	}
	for _, s := range d.Sigs {
		s.Lives = append([]string(nil), s.Lives...)
		s.Outlives = append([]api.Outlives(nil), s.Outlives...)
		s.Params = copiedFields(s.Params)
		s.Answer = copiedType(s.Answer)
		c.Sigs = append(c.Sigs, s)
	}
	return c
}

func copiedFields(l []api.Field) []api.Field {
	var c []api.Field
	for _, f := range l {
		c = append(c, api.Field{Name: f.Name, Type: copiedType(f.Type)})
	}
	return c
}

func copiedType(x api.Type) api.Type {
	var of []api.Type
	for _, y := range x.Of {
		of = append(of, copiedType(y))
	}
	x.Of = of
	return x
}

// scratched changes all memory of a value that a type has.
func scratched(x api.Type) {
	for i := range x.Of {
		scratched(x.Of[i])
		x.Of[i] = api.Type{Kind: 77, Region: -9}
	}
}

func scratchedFields(l []api.Field) {
	for i := range l[:cap(l)] {
		if i < len(l) {
			scratched(l[i].Type)
		}
		l[:cap(l)][i] = api.Field{Name: "?"}
	}
}

// parts are what can be changed in declarations, one by one.
func parts(d api.Decls) []func() {
	var l []func()
	for i := range d.Structs {
		l = append(l, func() { scratchedFields(d.Structs[i].Fields) })
	}
	for i := range d.Sigs {
		s := d.Sigs[i]
		l = append(l, func() { scratchedFields(s.Params) }, func() { scratched(s.Answer) },
			func() {
				for k := range s.Lives[:cap(s.Lives)] {
					s.Lives[:cap(s.Lives)][k] = "?"
				}
			}, func() {
				for k := range s.Outlives[:cap(s.Outlives)] {
					s.Outlives[:cap(s.Outlives)][k] = api.Outlives{Long: -5}
				}
			})
	}
	return l
}

// P7.1: what is handed in stays as it is; answers share nothing with it, nor with one another, nor has one answer two parts that share.
func TestOfSharesNothing(t *testing.T) {
	f := file(t, greatText())
	own, _ := tree.Own(f)
	want := of(t, greatText())
	first, _, _ := decl.Of(f)
	second, _, _ := decl.Of(f)
	if !reflect.DeepEqual(f, own) {
		t.Fatal("the tree was changed")
	}
	for _, change := range parts(first) {
		change()
	}
	if !reflect.DeepEqual(f, own) || !reflect.DeepEqual(second, want) {
		t.Error("an answer shares memory with the tree, or with another answer")
	}
	for n := range f.Nodes {
		for i := range f.Nodes[n].L {
			f.Nodes[n].L[i] = 0
		}
		f.Nodes[n] = api.Node{}
	}
	if !reflect.DeepEqual(second, want) {
		t.Error("an answer shares memory with the tree")
	}
	for i := range parts(want) {
		d, _, _ := decl.Of(own)
		before := copied(d)
		parts(d)[i]()
		parts(before)[i]()
		if told(d) != told(before) {
			t.Errorf("part %d shares memory with another one: %s; want %s", i, told(d), told(before))
		}
	}
}

// P7.2, P7.3, P7.4: what is handed in stays as it is.
func TestAskingChangesNothing(t *testing.T) {
	f := file(t, greatText())
	own, _ := tree.Own(f)
	d := of(t, greatText())
	want := copied(d)
	lives := []string{"b", "a", "b"}
	for n := range f.Nodes {
		if x, _, e := decl.Type(f, n, d, lives); e == api.OK {
			scratched(x)
		}
		decl.Field(d, n, "a")
		decl.Outlives(d.Sigs[0], n, 0)
	}
	decl.Struct(d, "T")
	decl.Sig(d, "main")
	for i := range d.Sigs {
		d.Sigs[i].Outlives = append(make([]api.Outlives, 0, 9), d.Sigs[i].Outlives...)
	}
	decl.May(d)
	if !reflect.DeepEqual(f, own) || told(d) != told(want) || !reflect.DeepEqual(lives, []string{"b", "a", "b"}) {
		t.Error("what was handed in was changed")
	}
	for _, s := range d.Sigs {
		for _, o := range s.Outlives[len(s.Outlives):cap(s.Outlives)] {
			if o != (api.Outlives{}) {
				t.Error("what lies behind a list was changed")
			}
		}
	}
}

// P7.1 to P7.4: whatever is handed in, a call answers.
func TestAnything(t *testing.T) {
	c := byChance(80)
	whole := file(t, greatText())
	for range 20000 {
		f, _ := tree.Own(whole)
		for range 1 + c.Intn(3) {
			c.damage(&f)
		}
		d, at, e := decl.Of(f)
		if e != api.OK && (len(d.Structs)+len(d.Sigs) > 0 || at < 0 || at >= len(f.Nodes)) || e == api.OK && (at != 0 || !decl.May(d)) {
			t.Fatalf("%v: %s, %d, %v", f.Nodes, told(d), at, e)
		}
		mustHold(t, f)
		decl.Type(f, c.Intn(len(f.Nodes)+3)-1, d, []string{"a", "b"})
	}
	deep := api.Type{Kind: api.TyInt}
	for range 5000 {
		deep = api.Type{Kind: api.TyRef, Of: []api.Type{deep}}
	}
	for _, x := range []api.Type{deep, {Kind: api.TyRef, Region: 1 << 62, Of: []api.Type{{Kind: api.TyInt}}}} {
		d := of(t, greatText())
		d.Sigs[0].Answer = x
		if decl.May(d) {
			t.Errorf("May of %v", x)
		}
		d = of(t, greatText())
		d.Structs[0].Fields[0].Type = x
		if decl.May(d) {
			t.Errorf("May of %v", x)
		}
	}
	great := api.Decls{Structs: make([]api.Struct, 1<<20), Sigs: make([]api.Sig, 1<<20)}
	great.Sigs[0] = api.Sig{Lives: make([]string, 1<<20), Params: make([]api.Field, 1<<20), Outlives: make([]api.Outlives, 1<<20), Count: 1 << 40}
	if decl.May(great) || decl.May(api.Decls{Sigs: great.Sigs}) || decl.May(api.Decls{Sigs: great.Sigs[:1]}) {
		t.Error("May of very long lists")
	}
}

// damage changes one node.
func (c chance) damage(f *api.Tree) {
	x := &f.Nodes[c.Intn(len(f.Nodes))]
	switch c.Intn(5) {
	case 0:
		x.S = c.of("a", "b", "S", "T", "f", "g", "main", "", "x", "y", "z")
	case 1:
		x.Kind = api.NodeKind(c.Intn(40))
	case 2:
		x.N = int64(c.Intn(4) - 1)
	case 3:
		if len(x.L) > 0 {
			x.L[c.Intn(len(x.L))] = c.Intn(len(f.Nodes)+4) - 2
		}
	case 4:
		if len(x.L) > 0 {
			x.L = x.L[:len(x.L)-1]
		}
	}
}
