package tree_test

import (
	"math/rand"
	"strings"
	"testing"

	"loanword/api"
	"loanword/tree"
)

func node(kind api.NodeKind, s string, n int64, l ...int) api.Node {
	return api.Node{Kind: kind, S: s, N: n, L: l}
}

func nodes(l ...api.Node) api.Tree { return api.Tree{Nodes: l} }

// P3.1: no nodes, the most nodes, one more.
func TestCheckHowMany(t *testing.T) {
	if at, e := tree.Check(api.Tree{}); at != 0 || e != api.ErrTree {
		t.Errorf("no nodes: at %d, %v", at, e)
	}
	if at, e := tree.Check(nodes([]api.Node{}...)); at != 0 || e != api.ErrTree {
		t.Errorf("none: at %d, %v", at, e)
	}
	most := flat(k(api.NBlock, "", 0, repeat(k(api.NBreak, "", 0), api.MaxNodes-1)...))
	if at, e := tree.Check(most); at != 0 || e != api.OK {
		t.Errorf("%d nodes: at %d, %v", len(most.Nodes), at, e)
	}
	more := flat(k(api.NBlock, "", 0, repeat(k(api.NBreak, "", 0), api.MaxNodes)...))
	more.Nodes[3].At = -1
	if at, e := tree.Check(more); at != api.MaxNodes || e != api.ErrLong || tree.May(more) {
		t.Errorf("%d nodes: at %d, %v", len(more.Nodes), at, e)
	}
}

// P3.1: the chapter's examples, and others of each kind of fault.
func TestCheckFaults(t *testing.T) {
	i := node(api.NInt, "", 1)
	minus := func(l ...int) api.Node { return node(api.NNeg, "", 0, l...) }
	sum := func(l ...int) api.Node { return node(api.NBin, "+", 0, l...) }
	block := func(l ...int) api.Node { return node(api.NBlock, "", 0, l...) }
	for _, c := range []struct {
		what string
		x    api.Tree
		at   int
	}{
		{"a child that is not the next one", nodes(sum(1, 3), i, i, i), 0},
		{"a node that was not met", nodes(sum(1, 2), i, i, i), 3},
		{"the first of those that were not met", nodes(minus(1), i, minus(3), i), 2},
		{"a child twice", nodes(sum(1, 1), i), 0},
		{"the root as a child", nodes(minus(0)), 0},
		{"round in a ring", nodes(minus(1), minus(0)), 1},
		{"children from the right", nodes(sum(2, 1), i, i), 0},
		{"a child's child ahead of it", nodes(minus(2), i, minus(1)), 0},
		{"a number below 0", nodes(minus(-1)), 0},
		{"a number behind the last", nodes(minus(1), minus(2)), 1},
		{"a number of nobody in a block", nodes(block(1, 7), node(api.NBreak, "", 0)), 0},
		{"the walk is stopped below what is sound", nodes(sum(1, 3), minus(3), i, i), 1},
		{"the kind's fault ahead of the walk's", nodes(minus(1), node(api.NInt, "", -1), i), 1},
		{"the walk's fault ahead of the kind's", nodes(sum(2, 1), i, node(api.NInt, "", -1)), 0},
		{"a fault that the walk does not come to", nodes(sum(1, 3), i, node(api.NVar, "let", 0), i), 0},
		{"a block as an expression", nodes(minus(1), block()), 0},
		{"no kind", nodes(node(api.NoNode, "", 0)), 0},
		{"a kind beyond", nodes(node(api.NRead+1, "", 0)), 0},
		{"a place below 0", nodes(minus(1), api.Node{Kind: api.NRead, At: -1}), 1},
	} {
		if at, e := tree.Check(c.x); at != c.at || e != api.ErrTree {
			t.Errorf("%s: at %d, %v, not at %d", c.what, at, e, c.at)
		}
		mustCheck(t, c.x)
	}
}

// P3.1: as deep as may be, and deeper; a node's fault is told ahead of that.
func TestCheckDeep(t *testing.T) {
	if at, e := tree.Check(flat(chain(api.MaxNest))); at != 0 || e != api.OK {
		t.Errorf("the deepest: at %d, %v", at, e)
	}
	deep := flat(chain(api.MaxNest + 1))
	if at, e := tree.Check(deep); at != 0 || e != api.ErrNest || tree.May(deep) {
		t.Errorf("too deep: at %d, %v", at, e)
	}
	deep.Nodes[20].S = "x"
	if at, e := tree.Check(deep); at != 20 || e != api.ErrTree {
		t.Errorf("too deep and at fault: at %d, %v", at, e)
	}
	// The first child is not the deepest one.
	aside := flat(k(api.NBin, "*", 0, k(api.NInt, "", 1), chain(api.MaxNest)))
	if _, e := tree.Check(aside); e != api.ErrNest {
		t.Errorf("too deep on the right: %v", e)
	}
	longest := flat(chain(api.MaxNodes))
	if at, e := tree.Check(longest); at != 0 || e != api.ErrNest {
		t.Errorf("a chain of all nodes: at %d, %v", at, e)
	}
}

// P3.1: each kind alone, with each S, each N, and children of each number: as the table has it.
func TestKindsAlone(t *testing.T) {
	texts := []string{"", "x", "let", "box", "X", "Box", "1x", "_", "+", "<>", "&", "||", "x y", "é", strings.Repeat("x", 33), strings.Repeat("X", 33)}
	numbers := []int64{-1 << 63, -1, 0, 1, 2, 3, 4, 8, 9, 1 << 40, 1<<63 - 1}
	for kind := range api.NodeKind(60) {
		for _, s := range texts {
			for _, n := range numbers {
				mustCheck(t, nodes(node(kind, s, n)))
				mustCheck(t, nodes(api.Node{Kind: kind, S: s, N: n, At: 5}))
				mustCheck(t, nodes(api.Node{Kind: kind, S: s, N: n, At: -5}))
			}
		}
	}
}

// someKids are sound knots, one of each kind.
func someKids() []knot {
	e := k(api.NInt, "", 3)
	call := k(api.NCall, "f", 0)
	return []knot{
		k(api.NFile, "", 0), k(api.NStruct, "S", 0, k(api.NField, "f", 0, aType)), k(api.NField, "f", 0, aType),
		k(api.NFn, "f", 0, aType, aBlock), k(api.NLife, "a", 0), k(api.NBound, "a", 0), k(api.NParam, "p", 0, aType),
		aType, k(api.NTyBool, "", 0), k(api.NTyBox, "", 0, aType), k(api.NTyRef, "a", 1, aType), k(api.NTyName, "S", 0),
		aBlock, k(api.NLet, "x", 2, e), k(api.NAssign, "", 0, e, e), k(api.NIf, "", 0, e, aBlock), k(api.NWhile, "", 0, e, aBlock),
		k(api.NLoop, "", 0, aBlock), k(api.NBreak, "", 0), k(api.NContinue, "", 0), k(api.NReturn, "", 0, e), k(api.NPrint, "", 0, e),
		k(api.NExpr, "", 0, call), e, k(api.NBool, "", 1), k(api.NVar, "x", 0), k(api.NDot, "f", 0, e), k(api.NDeref, "", 0, e),
		k(api.NRef, "", 1, e), k(api.NNeg, "", 0, e), k(api.NNot, "", 0, e), k(api.NBin, "&&", 0, e, e), call,
		k(api.NMake, "S", 0, k(api.NInit, "f", 0, e)), k(api.NInit, "f", 0, e), k(api.NBox, "", 0, e), k(api.NRead, "", 0),
	}
}

// rootText is an S that fits a kind.
func rootText(kind api.NodeKind) string {
	line := table[kindName(kind)]
	for _, s := range []string{"", "x", "X", "+"} {
		if fits(line.text, s) {
			return s
		}
	}
	return ""
}

// P3.1: each kind with each one, and each two, and some three children, each N.
func TestKindsWithChildren(t *testing.T) {
	kids := someKids()
	for i := range kids {
		if at, e := tree.Check(flat(kids[i])); e != api.OK || kids[i].n.Kind != api.NodeKind(i+1) {
			t.Fatalf("%s: at %d, %v", kindName(kids[i].n.Kind), at, e)
		}
	}
	for kind := range api.NRead + 2 {
		s := rootText(kind)
		for n := int64(-1); n <= 4; n++ {
			for _, a := range kids {
				mustCheck(t, flat(k(kind, s, n, a)))
				for _, b := range kids {
					mustCheck(t, flat(k(kind, s, n, a, b)))
				}
			}
		}
	}
	three := []knot{aType, aBlock, k(api.NVar, "x", 0), k(api.NIf, "", 0, k(api.NRead, "", 0), aBlock), k(api.NLife, "a", 0), k(api.NParam, "p", 0, aType), k(api.NInit, "f", 0, aSum)}
	for kind := range api.NRead + 2 {
		for n := int64(-1); n <= 4; n++ {
			for _, a := range three {
				for _, b := range three {
					for _, c := range three {
						mustCheck(t, flat(k(kind, rootText(kind), n, a, b, c)))
					}
				}
			}
		}
	}
}

// P3.1: how many children there may be of those that may be many.
func TestKindsHowMany(t *testing.T) {
	life, param, bound := k(api.NLife, "a", 0), k(api.NParam, "p", 0, aType), k(api.NBound, "a", 0)
	for n := range 11 {
		mustCheck(t, flat(k(api.NStruct, "S", 0, repeat(k(api.NField, "f", 0, aType), n)...)))
		mustCheck(t, flat(k(api.NMake, "S", 0, repeat(k(api.NInit, "f", 0, aSum), n)...)))
		mustCheck(t, flat(k(api.NCall, "f", 0, repeat(aSum, n)...)))
		mustCheck(t, flat(k(api.NLife, "a", 0, repeat(bound, n)...)))
		mustCheck(t, flat(k(api.NFile, "", 0, repeat(k(api.NFn, "f", 0, aType, aBlock), n)...)))
		for params := range 11 {
			kids := append(append(repeat(life, n), repeat(param, params)...), aType, aBlock)
			for said := range int64(10) {
				mustCheck(t, flat(k(api.NFn, "f", said, kids...)))
			}
			mustCheck(t, flat(k(api.NFn, "f", 1<<32, kids...)))
			mustCheck(t, flat(k(api.NFn, "f", -1, kids...)))
		}
	}
}

// P3.1: all trees of up to three nodes of some kinds, whatever numbers stand in them.
func TestSmallTrees(t *testing.T) {
	if testing.Short() {
		t.Skip("many trees")
	}
	for count := 1; count <= 3; count++ {
		var lists [][]int
		lists = append(lists, nil)
		for a := -1; a <= count; a++ {
			lists = append(lists, []int{a})
			for b := 0; b <= count; b++ {
				lists = append(lists, []int{a, b})
			}
		}
		var some []api.Node
		for _, l := range lists {
			some = append(some, node(api.NInt, "", 0, l...), node(api.NNeg, "", 0, l...), node(api.NBin, "+", 0, l...))
		}
		all := 1
		for range count {
			all *= len(some)
		}
		for pick := 0; pick < all; pick += 1 + count/3*2 {
			var x api.Tree
			for left := pick; len(x.Nodes) < count; left /= len(some) {
				x.Nodes = append(x.Nodes, some[left%len(some)])
			}
			mustCheck(t, x)
		}
	}
}

// P3.1: trees by chance may be; with a thing or two in them changed they are as the table and the walk say.
func TestChangedTrees(t *testing.T) {
	c := rand.New(rand.NewSource(31))
	for range 6000 {
		x := flat(chanceKnot(c, 1+c.Intn(5)))
		if at, e := tree.Check(x); e != api.OK {
			t.Fatalf("%v: at %d, %v", x.Nodes, at, e)
		}
		mustCheck(t, x)
		for range 3 {
			change(c, &x)
			mustCheck(t, x)
		}
	}
}

// change changes one thing of a tree.
func change(c *rand.Rand, x *api.Tree) {
	at := c.Intn(len(x.Nodes))
	n := &x.Nodes[at]
	switch c.Intn(9) {
	case 0:
		n.Kind = api.NodeKind(c.Intn(40))
	case 1:
		n.At = c.Intn(3) - 1
	case 2:
		n.N = int64(c.Intn(5) - 1)
	case 3:
		n.S = []string{"", "x", "X", "+", "let", "Box"}[c.Intn(6)]
	case 4:
		n.L = append(n.L, c.Intn(len(x.Nodes)+2)-1)
	case 5:
		if len(n.L) > 0 {
			n.L[c.Intn(len(n.L))] = c.Intn(len(x.Nodes)+2) - 1
		}
	case 6:
		if len(n.L) > 0 {
			n.L = n.L[:len(n.L)-1]
		}
	case 7:
		x.Nodes = append(x.Nodes, node(api.NRead, "", 0))
	case 8:
		other := &x.Nodes[c.Intn(len(x.Nodes))]
		*n, *other = *other, *n
	}
}

// P3.1: numbers that stand in many lists at once cost no more than going over them.
func TestSharedLists(t *testing.T) {
	numbers := make([]int, api.MaxNodes)
	for i := range numbers {
		numbers[i] = i + 1
	}
	var x api.Tree
	for i := range 3000 {
		x.Nodes = append(x.Nodes, node(api.NBlock, "", 0, numbers[i:]...))
	}
	if at, e := tree.Check(x); at != 0 || e != api.ErrTree {
		t.Errorf("at %d, %v", at, e)
	}
}

// P3.1: Own is the tree, in memory of its own; of one that may not be ErrArg.
func TestOwn(t *testing.T) {
	c := rand.New(rand.NewSource(32))
	for range 500 {
		x := flat(chanceKnot(c, 4))
		was := copied(x)
		got, e := tree.Own(x)
		mustBe(t, "Own", got, e, was)
		scratch(x)
		if !equal(got, was) {
			t.Fatalf("Own shares memory: %v", got.Nodes)
		}
	}
	for _, x := range unsound() {
		got, e := tree.Own(x)
		mustRefuse(t, "Own", got, e, api.ErrArg)
	}
}

// scratch changes all that can be changed in a tree's memory.
func scratch(x api.Tree) {
	for i := range x.Nodes {
		for j := range x.Nodes[i].L {
			x.Nodes[i].L[j] = -7
		}
		x.Nodes[i] = api.Node{Kind: api.NWhile, At: -3}
	}
}

// unsound are trees that may not be, one for each reason.
func unsound() []api.Tree {
	i := node(api.NInt, "", 1)
	return []api.Tree{
		{},
		nodes(node(api.NInt, "", -1)),
		nodes(node(api.NNeg, "", 0, 1), i, i),
		nodes(node(api.NBin, "-", 0, 2, 1), i, i),
		nodes(node(api.NNeg, "", 0, 0)),
		nodes(node(api.NNeg, "", 0, 9)),
		flat(chain(api.MaxNest + 1)),
		flat(k(api.NBlock, "", 0, repeat(k(api.NBreak, "", 0), api.MaxNodes)...)),
	}
}
