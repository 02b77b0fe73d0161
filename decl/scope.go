package decl

import (
	"strings"

	"loanword/api"
)

// scope is what names in a type mean: the numbers of structs and of lifetimes.
type scope struct {
	structs, lives map[string]int
}

// numbers tells the place of each name, of one that stands there twice the first.
func numbers(names []string) map[string]int {
	places := map[string]int{}
	for place, name := range names {
		if _, ok := places[name]; !ok {
			places[name] = place
		}
	}
	return places
}

// knows tells whether what the node x names is there. A reference need not name a lifetime.
func (in scope) knows(x api.Node) bool {
	known := true
	switch x.Kind {
	case api.NTyName:
		_, known = in.structs[x.S]
	case api.NBound:
		_, known = in.lives[x.S]
	case api.NTyRef:
		_, known = in.lives[x.S]
		known = known || isBare(x)
	}
	return known
}

// typeAt answers the type at a node all of whose names are known; the region of a bare reference is -1.
func (in scope) typeAt(nodes []api.Node, n int) api.Type {
	switch x := nodes[n]; x.Kind {
	case api.NTyBool:
		return api.Type{Kind: api.TyBool}
	case api.NTyBox:
		return api.Type{Kind: api.TyBox, Of: []api.Type{in.typeAt(nodes, x.L[0])}}
	case api.NTyRef:
		return api.Type{Kind: api.TyRef, Mut: x.N == 1, Region: in.region(x), Of: []api.Type{in.typeAt(nodes, x.L[0])}}
	case api.NTyName:
		return api.Type{Kind: api.TyStruct, Struct: in.structs[x.S]}
	}
	return api.Type{Kind: api.TyInt}
}

func (in scope) region(x api.Node) int {
	if isBare(x) {
		return -1
	}
	return in.lives[x.S]
}

// isBare tells whether x is a reference without a lifetime.
func isBare(x api.Node) bool { return x.Kind == api.NTyRef && x.S == "" }

// isTypeNode is asked of a tree that may be.
func isTypeNode(t api.Tree, n int) bool {
	return n >= 0 && n < len(t.Nodes) && t.Nodes[n].Kind >= api.NTyInt && t.Nodes[n].Kind <= api.NTyName
}

// behindType answers the first node behind the type at n. A type's node has one child or none, so they stand in a row.
func behindType(nodes []api.Node, n int) int {
	for len(nodes[n].L) > 0 {
		n = nodes[n].L[0]
	}
	return n + 1
}

// namesOf answers the names of these nodes, in memory of their own.
func namesOf(nodes []api.Node, l []int) []string {
	var names []string
	for _, n := range l {
		names = append(names, strings.Clone(nodes[n].S))
	}
	return names
}
