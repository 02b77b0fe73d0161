package typing

import (
	"slices"
	"strings"

	"loanword/api"
	"loanword/decl"
	"loanword/tree"
	"loanword/types"
)

// reader goes over the body of one function, and lays what it finds of each node into the file's lists.
type reader struct {
	known
	means []int
	decls api.Decls
	brief api.Decls // as much of decls as types hang on
	sig   api.Sig
	vars  []api.Var
	scope []name // a stack: what a block brought is cut back where it ends
	loops int    // how many loops of the function are open
}

// name is a name that is in scope, and the variable's number.
type name struct {
	text     string
	variable int
}

// typed reads function by function what a file means.
func typed(t api.Tree) api.Typed {
	d, at, e := decl.Of(t)
	must(demand{at, e, func() bool { return e == api.OK }})
	own, _ := tree.Own(t) // decl took it, so it may be
	up, _ := tree.Up(own)
	x := api.Typed{Tree: own, Decls: d, Of: make([]api.Type, len(up)), Means: slices.Repeat([]int{-1}, len(up))}
	brief := briefOf(d)
	for _, sig := range d.Sigs {
		r := reader{known: known{nodes: own.Nodes, up: up, of: x.Of}, means: x.Means, decls: d, brief: brief, sig: sig}
		r.readFn()
		x.Vars = append(x.Vars, r.vars)
	}
	return x
}

func (r *reader) readFn() {
	lives := len(r.sig.Lives)
	for i, p := range r.sig.Params {
		own, _ := types.Own(p.Type) // a signature's types may be
		r.bring(r.nodes[r.sig.Node].L[lives+i], own)
	}
	r.block(bodyOf(r.nodes, r.sig.Node))
}

// bring makes the variable of an NParam or an NLet, which is in scope from here on.
func (r *reader) bring(node int, t api.Type) {
	text, number := r.nodes[node].S, len(r.vars)
	r.means[node] = number
	r.scope = append(r.scope, name{text, number})
	r.vars = append(r.vars, api.Var{Name: strings.Clone(text), Type: t, Node: node})
}

// meant answers the variable that a text means here: the last one of that name that came into scope.
func (r *reader) meant(text string) (int, bool) {
	for _, x := range slices.Backward(r.scope) {
		if x.text == text {
			return x.variable, true
		}
	}
	return 0, false
}

// briefOf is d with its structs' names and main alone: decl asks at each type anew whether all that it is handed may be, and a file has many lets.
func briefOf(d api.Decls) api.Decls {
	var brief api.Decls
	field := api.Field{Name: "a", Type: api.Type{Kind: api.TyInt}}
	for _, s := range d.Structs {
		brief.Structs = append(brief.Structs, api.Struct{Name: s.Name, Fields: []api.Field{field}})
	}
	main, _ := decl.Sig(d, "main") // each file has one
	brief.Sigs = []api.Sig{d.Sigs[main]}
	return brief
}

// letType answers the type at node n of a let.
func (r *reader) letType(n int) api.Type {
	t, at, e := decl.Type(typeTree(r.nodes, n), 0, r.brief, r.sig.Lives)
	must(demand{n + at, e, func() bool { return e == api.OK }})
	return t
}

// typeTree is the type at node n as a tree of its own, which decl has soon looked at, too.
func typeTree(nodes []api.Node, n int) api.Tree {
	row := slices.Clone(nodes[n:behind(nodes, n)])
	for i := range row {
		if len(row[i].L) > 0 {
			row[i].L = []int{i + 1}
		}
	}
	return api.Tree{Nodes: row}
}

// bare is t in memory of its own, without its regions. It is no deeper than a type may be.
func bare(t api.Type) api.Type {
	regions := types.Regions(t)
	for i := range regions {
		regions[i] = -1
	}
	x, _ := types.Anew(t, regions...) // they are as many as they were
	return x
}
