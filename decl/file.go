package decl

import (
	"slices"
	"strings"

	"loanword/api"
	"loanword/tree"
	"loanword/types"
)

// file is the nodes of a file that may be, and which of them are its items.
type file struct {
	nodes        []api.Node
	structs, fns []int
}

// declared asks the whole file one thing after the other: what is asked later leans on what was asked before.
func declared(t api.Tree) api.Decls {
	f := fileOf(t)
	f.mustNameWell()
	d := api.Decls{Structs: f.structsOf()}
	f.mustEnd(d.Structs)
	for _, fn := range f.fns {
		d.Sigs = append(d.Sigs, f.sigOf(fn))
	}
	mustHaveMain(d)
	return d
}

func fileOf(t api.Tree) file {
	must(tree.May(t) && t.Nodes[0].Kind == api.NFile, 0, api.ErrArg)
	f := file{nodes: t.Nodes}
	for _, item := range t.Nodes[0].L {
		l := &f.fns
		if t.Nodes[item].Kind == api.NStruct {
			l = &f.structs
		}
		must(len(*l) < api.MaxItems, item, api.ErrLong)
		*l = append(*l, item)
	}
	return f
}

// mustNameWell asks each node, by number, for a name that no earlier one has, or that means something.
func (f file) mustNameWell() {
	first := fault{}
walk:
	for _, item := range f.nodes[0].L {
		ask, end := f.asker(item), f.behindHead(item)
		for n := item; n < end; n++ {
			if e := ask(n); e != api.OK {
				first = fault{at: n, e: e}
				break walk
			}
		}
	}
	must(first.e == api.OK, first.at, first.e)
}

// behindHead answers the first node behind what an item declares: a function's body, or the next item.
func (f file) behindHead(item int) int {
	for n := item + 1; n < len(f.nodes); n++ {
		switch f.nodes[n].Kind {
		case api.NBlock, api.NStruct, api.NFn:
			return n
		}
	}
	return len(f.nodes)
}

// asker answers what tells of a node that an item declares what is wrong with its name.
func (f file) asker(item int) func(n int) api.Errno {
	in := f.scopeOf(item)
	first := f.firsts(slices.Concat(f.nodes[0].L, f.nodes[item].L))
	return func(n int) api.Errno {
		x := f.nodes[n]
		switch x.Kind {
		case api.NStruct, api.NFn, api.NField, api.NParam, api.NLife:
			if first[named{x.Kind, x.S}] != n {
				return api.ErrTwice
			}
		case api.NTyRef:
			if f.nodes[item].Kind == api.NStruct {
				return api.ErrFieldRef
			}
		}
		if !in.knows(x) {
			return api.ErrName
		}
		return api.OK
	}
}

// named is a name of one kind: what is of another kind may have it, too.
type named struct {
	kind api.NodeKind
	name string
}

// firsts tells which of these nodes is the first one of its kind and name.
func (f file) firsts(l []int) map[named]int {
	first := map[named]int{}
	for _, n := range l {
		key := named{f.nodes[n].Kind, f.nodes[n].S}
		if _, ok := first[key]; !ok {
			first[key] = n
		}
	}
	return first
}

// livesOf answers the lifetimes that an item declares; a struct's N is 0.
func (f file) livesOf(item int) []int {
	x := f.nodes[item]
	return x.L[:x.N]
}

func (f file) scopeOf(item int) scope {
	return scope{structs: numbers(namesOf(f.nodes, f.structs)), lives: numbers(namesOf(f.nodes, f.livesOf(item)))}
}

func (f file) structsOf() []api.Struct {
	var l []api.Struct
	for _, item := range f.structs {
		x := f.nodes[item]
		l = append(l, api.Struct{Name: strings.Clone(x.S), Fields: f.fieldsOf(f.scopeOf(item), x.L)})
	}
	return l
}

// fieldsOf answers what these fields, or parameters, are.
func (f file) fieldsOf(in scope, l []int) []api.Field {
	var fields []api.Field
	for _, n := range l {
		x := f.nodes[n]
		fields = append(fields, api.Field{Name: strings.Clone(x.S), Type: in.typeAt(f.nodes, x.L[0])})
	}
	return fields
}

// mustEnd asks that no struct stands within itself, and then that none is too large.
func (f file) mustEnd(structs []api.Struct) {
	var within relation
	for n, s := range structs {
		for _, field := range s.Fields {
			if field.Type.Kind == api.TyStruct {
				within[n][field.Type.Struct] = true
			}
		}
	}
	within.close(len(structs))
	for n, item := range f.structs {
		must(!within[n][n], item, api.ErrEndless)
	}
	// There is nothing left for which types refuses these structs but their words.
	if n, e := types.Structs(structs); e != api.OK {
		panic(fault{at: f.structs[n], e: api.ErrLarge})
	}
}

func mustHaveMain(d api.Decls) {
	n, ok := Sig(d, "main")
	must(ok, 0, api.ErrMain)
	must(isMain(d.Sigs[n]), d.Sigs[n].Node, api.ErrMain)
}

// isMain tells whether s, which is called so, is as main must be.
func isMain(s api.Sig) bool {
	return s.Count == 0 && len(s.Params) == 0 && s.Answer.Kind == api.TyInt
}
