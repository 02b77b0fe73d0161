package tree_test

import (
	"math/rand"
	"testing"

	"loanword/api"
	"loanword/tree"
)

// P3.2: the chapter's examples.
func TestJoinExamples(t *testing.T) {
	five, e := tree.Join(node(api.NInt, "", 5))
	mustBe(t, "five", five, e, nodes(node(api.NInt, "", 5)))
	minus, e := tree.Join(node(api.NNeg, "", 0), five)
	mustBe(t, "minus five", minus, e, nodes(node(api.NNeg, "", 0, 1), node(api.NInt, "", 5)))
	if deep := tree.Deep(minus); deep != 2 {
		t.Errorf("minus five is %d deep", deep)
	}
	got, e := tree.Join(node(api.NNeg, "", 0))
	mustRefuse(t, "minus nothing", got, e, api.ErrTree)
	got, e = tree.Join(node(api.NInt, "", -1))
	mustRefuse(t, "less than nothing", got, e, api.ErrTree)
	got, e = tree.Join(node(api.NBin, "<>", 0), five, five)
	mustRefuse(t, "no sign", got, e, api.ErrTree)
}

// P3.2: of the node that is handed in all but its L counts.
func TestJoinRoot(t *testing.T) {
	five := flat(k(api.NInt, "", 5))
	root := api.Node{Kind: api.NLet, At: 12, N: 2, S: "x", L: []int{-4, 0, 1 << 40}}
	got, e := tree.Join(root, five)
	mustBe(t, "a let", got, e, nodes(api.Node{Kind: api.NLet, At: 12, N: 2, S: "x", L: []int{1}}, node(api.NInt, "", 5)))
	root.At = -1
	got, e = tree.Join(root, five)
	mustRefuse(t, "a place below 0", got, e, api.ErrTree)
	got, e = tree.Join(api.Node{L: []int{1}}, five)
	mustRefuse(t, "no kind", got, e, api.ErrTree)
	got, e = tree.Join(api.Node{Kind: api.NRead, L: []int{1}})
	mustBe(t, "a read", got, e, nodes(node(api.NRead, "", 0)))
}

// P3.2: ErrArg stands ahead of ErrLong, that ahead of ErrTree, that ahead of ErrNest.
func TestJoinErrors(t *testing.T) {
	half := flat(k(api.NBlock, "", 0, repeat(k(api.NBreak, "", 0), api.MaxNodes/2-1)...))
	less := flat(k(api.NBlock, "", 0, repeat(k(api.NBreak, "", 0), api.MaxNodes/2-2)...))
	block, sum := node(api.NBlock, "", 0), node(api.NBin, "+", 0)
	for _, x := range unsound() {
		for _, l := range [][]api.Tree{{x}, {x, half, half}, {half, half, x}, {half, x, half}} {
			got, e := tree.Join(block, l...)
			mustRefuse(t, "one that may not be", got, e, api.ErrArg)
		}
	}
	got, e := tree.Join(block, half, half)
	mustRefuse(t, "one node too many", got, e, api.ErrLong)
	got, e = tree.Join(sum, half, half)
	mustRefuse(t, "too many, and no expressions", got, e, api.ErrLong)
	got, e = tree.Join(block, half, less)
	if e != api.OK || len(got.Nodes) != api.MaxNodes || !tree.May(got) {
		t.Errorf("the most nodes: %d, %v", len(got.Nodes), e)
	}
	deepest, deep := flat(chain(api.MaxNest)), flat(chain(api.MaxNest-1))
	got, e = tree.Join(node(api.NNeg, "", 0), deepest)
	mustRefuse(t, "too deep", got, e, api.ErrNest)
	got, e = tree.Join(block, deepest)
	mustRefuse(t, "too deep, and no statement", got, e, api.ErrTree)
	got, e = tree.Join(node(api.NNeg, "", 0), deep)
	mustBe(t, "as deep as may be", got, e, deepest)
}

// P3.2: a great tree handed in many times is refused, not laid.
func TestJoinManyTimes(t *testing.T) {
	half := flat(k(api.NBlock, "", 0, repeat(k(api.NBreak, "", 0), 999)...))
	var l []api.Tree
	for range 2000 {
		l = append(l, half)
	}
	got, e := tree.Join(node(api.NBlock, "", 0), l...)
	mustRefuse(t, "two million nodes", got, e, api.ErrLong)
}

// P3.2: what Join answers of any node and any trees is what the table says of what comes out.
func TestJoinAnyTrees(t *testing.T) {
	c := rand.New(rand.NewSource(33))
	kids := someKids()
	for range 30000 {
		root := k(api.NodeKind(c.Intn(40)), "", int64(c.Intn(4)))
		root.n.S = rootText(root.n.Kind)
		for range c.Intn(4) {
			root.kids = append(root.kids, kids[c.Intn(len(kids))])
		}
		want := flat(root)
		got, e := tree.Join(root.n, flatAll(root.kids)...)
		if _, e1 := plainCheck(want); e1 != api.OK {
			mustRefuse(t, "Join", got, e, e1)
		} else {
			mustBe(t, "Join", got, e, want)
		}
	}
}

func flatAll(l []knot) []api.Tree {
	var trees []api.Tree
	for _, x := range l {
		trees = append(trees, flat(x))
	}
	return trees
}

// P3.2: the chapter's example of Sub, each part of it, and nodes that are not there.
func TestSubExamples(t *testing.T) {
	sum := flat(aSum)
	got, e := tree.Sub(sum, 1)
	mustBe(t, "the minus", got, e, nodes(node(api.NNeg, "", 0, 1), node(api.NInt, "", 1)))
	got, e = tree.Sub(sum, 0)
	mustBe(t, "all of it", got, e, sum)
	got, e = tree.Sub(sum, 2)
	mustBe(t, "one", got, e, nodes(node(api.NInt, "", 1)))
	got, e = tree.Sub(sum, 3)
	mustBe(t, "two", got, e, nodes(node(api.NInt, "", 2)))
	for _, n := range []int{-1, 4, 5, -1 << 63, 1<<63 - 1} {
		got, e := tree.Sub(sum, n)
		mustRefuse(t, "a node that is not there", got, e, api.ErrArg)
	}
	for _, x := range unsound() {
		got, e := tree.Sub(x, 0)
		mustRefuse(t, "of a tree that may not be", got, e, api.ErrArg)
	}
}

// places are the places of a knot's parts, with them.
func places(x knot, at int, tell func(int, knot)) int {
	tell(at, x)
	at++
	for _, kid := range x.kids {
		at = places(kid, at, tell)
	}
	return at
}

// P3.2, P3.5: each Sub is the part of that place, and may be; Join of the root and of its children's Subs is the tree, and Sub of that at a child's place is that child.
func TestJoinAndSub(t *testing.T) {
	c := rand.New(rand.NewSource(34))
	for range 800 {
		root := chanceKnot(c, 1+c.Intn(4))
		x := flat(root)
		was := copied(x)
		places(root, 0, func(at int, part knot) {
			got, e := tree.Sub(x, at)
			mustBe(t, "Sub", got, e, flat(part))
			if !tree.May(got) {
				t.Fatalf("Sub may not be: %v", got.Nodes)
			}
		})
		var children []api.Tree
		for _, n := range x.Nodes[0].L {
			s, e := tree.Sub(x, n)
			if e != api.OK {
				t.Fatal(e)
			}
			children = append(children, s)
		}
		got, e := tree.Join(x.Nodes[0], children...)
		mustBe(t, "Join of the Subs", got, e, x)
		for i, n := range got.Nodes[0].L {
			s, e := tree.Sub(got, n)
			mustBe(t, "Sub of the Join", s, e, children[i])
		}
		if !equal(x, was) {
			t.Fatalf("changed: %v", x.Nodes)
		}
	}
}

// P3.2, rule 4: what Join and Sub answer shares no memory with what they were handed, nor does one part of it with another.
func TestJoinOwnMemory(t *testing.T) {
	sum := flat(aSum)
	root := api.Node{Kind: api.NCall, S: "f", L: []int{9, 9}}
	got, e := tree.Join(root, sum, sum)
	want := flat(k(api.NCall, "f", 0, aSum, aSum))
	mustBe(t, "a call", got, e, want)
	part, e := tree.Sub(got, 1)
	mustBe(t, "its first argument", part, e, flat(aSum))
	scratch(sum)
	root.L[0] = 3
	mustBe(t, "the call", got, api.OK, want)
	scratch(part)
	mustBe(t, "the call", got, api.OK, want)
	for i := range got.Nodes {
		got.Nodes[i].L = append(got.Nodes[i].L, -9)
	}
	for i, n := range got.Nodes {
		if len(n.L) != len(want.Nodes[i].L)+1 || !equal(nodes(api.Node{L: n.L[:len(n.L)-1]}), nodes(api.Node{L: want.Nodes[i].L})) {
			t.Errorf("the list of node %d: %v", i, n.L)
		}
	}
}
