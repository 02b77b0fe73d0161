package tree_test

import (
	"math/rand"
	"reflect"
	"testing"

	"loanword/api"
	"loanword/tree"
)

// heights tells of each part of a knot, in order, its parent and how many are above it.
func heights(x knot, parent, above int, up, level *[]int) {
	at := len(*up)
	*up = append(*up, parent)
	*level = append(*level, above)
	for _, kid := range x.kids {
		heights(kid, at, above+1, up, level)
	}
}

func told(x api.Tree) (nodes, above []int) {
	for n, a := range tree.Walk(x) {
		nodes = append(nodes, n)
		above = append(above, a)
	}
	return nodes, above
}

// P3.3: of a sum, by hand.
func TestWalkOfASum(t *testing.T) {
	sum := flat(aSum)
	n, above := told(sum)
	if !reflect.DeepEqual(n, []int{0, 1, 2, 3}) || !reflect.DeepEqual(above, []int{0, 1, 2, 1}) {
		t.Errorf("Walk: %v, %v", n, above)
	}
	if up, e := tree.Up(sum); e != api.OK || !reflect.DeepEqual(up, []int{-1, 0, 1, 0}) {
		t.Errorf("Up: %v, %v", up, e)
	}
	if deep := tree.Deep(sum); deep != 3 {
		t.Errorf("Deep: %d", deep)
	}
	if deep := tree.Deep(flat(aBlock)); deep != 1 {
		t.Errorf("Deep of a node: %d", deep)
	}
	if deep := tree.Deep(flat(chain(api.MaxNest))); deep != api.MaxNest {
		t.Errorf("the deepest: %d", deep)
	}
}

// P3.3: of a tree that may not be there is nothing to tell.
func TestWalkOfNothing(t *testing.T) {
	for _, x := range unsound() {
		if n, _ := told(x); len(n) != 0 {
			t.Errorf("Walk: %v", n)
		}
		if up, e := tree.Up(x); e != api.ErrArg || len(up) != 0 {
			t.Errorf("Up: %v, %v", up, e)
		}
		if deep := tree.Deep(x); deep != 0 {
			t.Errorf("Deep: %d", deep)
		}
		if tree.Same(x, x) || tree.Same(x, flat(aSum)) || tree.Same(flat(aSum), x) {
			t.Error("Same of what may not be")
		}
	}
}

// P3.3, P3.6: Walk tells each node once, rising; a parent is less than its child; what is below a node stands behind it, up to the next one as high.
func TestWalkAnyTree(t *testing.T) {
	c := rand.New(rand.NewSource(35))
	for range 1500 {
		root := chanceKnot(c, 1+c.Intn(5))
		x := flat(root)
		var up, level []int
		heights(root, -1, 0, &up, &level)
		n, above := told(x)
		gotUp, e := tree.Up(x)
		if e != api.OK || !reflect.DeepEqual(gotUp, up) || !reflect.DeepEqual(above, level) {
			t.Fatalf("%v: Up %v, %v; Walk %v", x.Nodes, gotUp, e, above)
		}
		deep := 0
		for i := range n {
			deep = max(deep, above[i]+1)
			if n[i] != i || gotUp[i] >= i {
				t.Fatalf("%v: told %v; Up %v", x.Nodes, n, gotUp)
			}
			mustBeBelow(t, gotUp, above, i)
		}
		if got := tree.Deep(x); got != deep {
			t.Fatalf("%v: Deep %d, not %d", x.Nodes, got, deep)
		}
	}
}

// mustBeBelow: the nodes from i to the next one as high or higher are just those that have i above them.
func mustBeBelow(t *testing.T, up, above []int, i int) {
	t.Helper()
	end := i + 1
	for end < len(up) && above[end] > above[i] {
		end++
	}
	for j := range up {
		k := j
		for k > i {
			k = up[k]
		}
		if (k == i) != (j >= i && j < end) {
			t.Fatalf("is %d below %d? %v, %v", j, i, up, above)
		}
	}
}

// P3.3: one may stop, and go over the same Walk again; what it tells does not hang on what becomes of the tree.
func TestWalkStopped(t *testing.T) {
	sum := flat(aSum)
	walk := tree.Walk(sum)
	count := 0
	for n := range walk {
		count++
		if n == 1 {
			break
		}
	}
	if count != 2 {
		t.Errorf("stopped behind %d", count)
	}
	scratch(sum)
	var above []int
	for range 2 {
		above = nil
		for _, a := range walk {
			above = append(above, a)
		}
	}
	if !reflect.DeepEqual(above, []int{0, 1, 2, 1}) {
		t.Errorf("told later: %v", above)
	}
}

// P3.3: the same but for At, and for none and nothing; any other thing makes them differ.
func TestSame(t *testing.T) {
	c := rand.New(rand.NewSource(36))
	for range 1500 {
		x := flat(chanceKnot(c, 4))
		y := copied(x)
		for i := range y.Nodes {
			y.Nodes[i].At = c.Intn(9)
			if len(y.Nodes[i].L) == 0 {
				y.Nodes[i].L = []int{}
			}
		}
		if !tree.Same(x, y) || !tree.Same(y, x) {
			t.Fatalf("not the same: %v, %v", x.Nodes, y.Nodes)
		}
		change(c, &y)
		_, e := plainCheck(y)
		want := e == api.OK && equal(without(x), without(y))
		if tree.Same(x, y) != want || tree.Same(y, x) != want {
			t.Fatalf("the same: %v, of %v, %v", !want, x.Nodes, y.Nodes)
		}
	}
}

// without is the tree without places.
func without(x api.Tree) api.Tree {
	y := copied(x)
	for i := range y.Nodes {
		y.Nodes[i].At = 0
	}
	return y
}

// P3.3: a place that may not be is the only thing that makes them differ.
func TestNotSameOfUnsound(t *testing.T) {
	x, y := flat(aSum), flat(aSum)
	y.Nodes[2].At = -1
	if tree.Same(x, y) || tree.Same(y, x) {
		t.Error("the same as one that may not be")
	}
}

// P3.3: pairs that differ in one thing, each of which may be.
func TestNotSame(t *testing.T) {
	e := k(api.NInt, "", 1)
	for _, c := range [][2]knot{
		{e, k(api.NInt, "", 2)},
		{k(api.NVar, "x", 0), k(api.NVar, "y", 0)},
		{k(api.NBreak, "", 0), k(api.NContinue, "", 0)},
		{k(api.NNeg, "", 0, e), k(api.NNot, "", 0, e)},
		{k(api.NCall, "f", 0, e), k(api.NCall, "f", 0, e, e)},
		{k(api.NBlock, "", 0, k(api.NBlock, "", 0, aBlock)), k(api.NBlock, "", 0, aBlock, aBlock)},
	} {
		a, b := flat(c[0]), flat(c[1])
		if tree.Same(a, b) || tree.Same(b, a) || !tree.Same(a, a) || !tree.Same(b, b) {
			t.Errorf("%v, %v", a.Nodes, b.Nodes)
		}
	}
}
