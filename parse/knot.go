package parse

import "loanword/api"

// knot is a node with its children in it. What stands left of a sign is read ahead of it, but stands behind it in the tree: so nodes get their numbers when all are there.
type knot struct {
	node     api.Node
	children []*knot
}

func tied(n api.Node, children ...*knot) *knot {
	return &knot{node: n, children: children}
}

// laid answers the tree of a knot and all below it, numbered as one meets them.
func laid(root *knot) api.Tree {
	var nodes []api.Node
	var put func(k *knot) int
	put = func(k *knot) int {
		place := len(nodes)
		nodes = append(nodes, k.node)
		var l []int
		for _, c := range k.children {
			l = append(l, put(c))
		}
		nodes[place].L = l
		return place
	}
	put(root)
	return api.Tree{Nodes: nodes}
}
