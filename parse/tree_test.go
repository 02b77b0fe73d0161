package parse_test

import (
	"math/rand"
	"testing"
	"unsafe"

	"loanword/api"
	"loanword/parse"
	"loanword/tree"
)

// P4.1: the chapter's examples that are taken.
func TestExamples(t *testing.T) {
	mustTake(t, "E", "1 - 2 - 3",
		api.Node{Kind: api.NBin, S: "-", L: []int{1, 4}},
		api.Node{Kind: api.NBin, S: "-", L: []int{2, 3}},
		api.Node{Kind: api.NInt, N: 1},
		api.Node{Kind: api.NInt, At: 4, N: 2},
		api.Node{Kind: api.NInt, At: 8, N: 3})
	mustTake(t, "E", "& &x",
		api.Node{Kind: api.NRef, L: []int{1}},
		api.Node{Kind: api.NRef, At: 2, L: []int{2}},
		api.Node{Kind: api.NVar, At: 3, S: "x"})
	mustTake(t, "E", "*x.f",
		api.Node{Kind: api.NDeref, L: []int{1}},
		api.Node{Kind: api.NDot, At: 1, S: "f", L: []int{2}},
		api.Node{Kind: api.NVar, At: 1, S: "x"})
	mustTake(t, "E", "(*x).f",
		api.Node{Kind: api.NDot, S: "f", L: []int{1}},
		api.Node{Kind: api.NDeref, At: 1, L: []int{2}},
		api.Node{Kind: api.NVar, At: 2, S: "x"})
	mustTake(t, "TYPE", "& 'a mut Box<&i64>",
		api.Node{Kind: api.NTyRef, N: 1, S: "a", L: []int{1}},
		api.Node{Kind: api.NTyBox, At: 9, L: []int{2}},
		api.Node{Kind: api.NTyRef, At: 13, L: []int{3}},
		api.Node{Kind: api.NTyInt, At: 14})
	mustTake(t, "E", "S { f: 1 }.f",
		api.Node{Kind: api.NDot, S: "f", L: []int{1}},
		api.Node{Kind: api.NMake, S: "S", L: []int{2}},
		api.Node{Kind: api.NInit, At: 4, S: "f", L: []int{3}},
		api.Node{Kind: api.NInt, At: 7, N: 1})
}

// P4.1: brackets count for the place of what stands around what is in them, not for its own.
func TestPlaces(t *testing.T) {
	mustTake(t, "E", "(1 + 2) * 3",
		api.Node{Kind: api.NBin, S: "*", L: []int{1, 4}},
		api.Node{Kind: api.NBin, At: 1, S: "+", L: []int{2, 3}},
		api.Node{Kind: api.NInt, At: 1, N: 1},
		api.Node{Kind: api.NInt, At: 5, N: 2},
		api.Node{Kind: api.NInt, At: 10, N: 3})
	mustTake(t, "E", " (((x)).f - y)",
		api.Node{Kind: api.NBin, At: 2, S: "-", L: []int{1, 3}},
		api.Node{Kind: api.NDot, At: 2, S: "f", L: []int{2}},
		api.Node{Kind: api.NVar, At: 4, S: "x"},
		api.Node{Kind: api.NVar, At: 12, S: "y"})
	mustTake(t, "FILE", " fn f<'a: 'b>(x: S) -> bool { (x) = read(); }",
		api.Node{Kind: api.NFile, At: 1, L: []int{1}},
		api.Node{Kind: api.NFn, At: 1, N: 1, S: "f", L: []int{2, 4, 6, 7}},
		api.Node{Kind: api.NLife, At: 6, S: "a", L: []int{3}},
		api.Node{Kind: api.NBound, At: 10, S: "b"},
		api.Node{Kind: api.NParam, At: 14, S: "x", L: []int{5}},
		api.Node{Kind: api.NTyName, At: 17, S: "S"},
		api.Node{Kind: api.NTyBool, At: 23},
		api.Node{Kind: api.NBlock, At: 28, L: []int{8}},
		api.Node{Kind: api.NAssign, At: 30, L: []int{9, 10}},
		api.Node{Kind: api.NVar, At: 31, S: "x"},
		api.Node{Kind: api.NRead, At: 36})
}

// P4.1: a file of no items has no token that it could begin with.
func TestNothing(t *testing.T) {
	for _, s := range []string{"", " \n", "// fn\n "} {
		mustTake(t, "FILE", s, api.Node{Kind: api.NFile})
		mustStop(t, "E", s, len(s), api.ErrSyntax)
		mustStop(t, "TYPE", s, len(s), api.ErrSyntax)
	}
}

// P4.1: whatever tree a text is written of is read from it, each node at its place.
func TestTrees(t *testing.T) {
	c := chance{rand.New(rand.NewSource(4))}
	for i := range 6000 {
		var x *knot
		switch i % 3 {
		case 0:
			x = c.file(i % 7)
		case 1:
			x = c.expression(i % 8)
		case 2:
			x = c.typeOf(i % 60)
		}
		mustRead(t, x, c.gap)
	}
}

// P4.1: each statement by itself.
func TestStatements(t *testing.T) {
	c := chance{rand.New(rand.NewSource(5))}
	for i := range 4000 {
		block := k(api.NBlock, "", 0, c.statement(i%4), c.statement(i%3))
		mustRead(t, k(api.NFile, "", 0, k(api.NFn, "main", 0, k(api.NTyInt, "", 0), block)), c.gap)
	}
}

// P4.1: all that is read may be, and shares no memory with the text (rule 4).
func TestOwn(t *testing.T) {
	s := "struct S { f: &'a mut T } fn f<'a: 'b>(x: i64) -> Box<S> { let y: S = S { f: g(1).h + x }; }"
	a, _, _ := parse.File(s)
	b, _, _ := parse.File(s)
	if !tree.May(a) || !tree.Same(a, b) {
		t.Fatal(a, b)
	}
	from := uintptr(unsafe.Pointer(unsafe.StringData(s)))
	for i, n := range a.Nodes {
		if p := uintptr(unsafe.Pointer(unsafe.StringData(n.S))); n.S != "" && p >= from && p < from+uintptr(len(s)) {
			t.Errorf("node %d has its text in the text that was handed in", i)
		}
		for j := range n.L {
			n.L[j] = -1
		}
	}
	if !tree.May(b) {
		t.Error("two answers share memory")
	}
}
