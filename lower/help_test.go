package lower_test

import (
	"fmt"
	"reflect"
	"slices"
	"strings"
	"testing"

	"loanword/api"
	"loanword/graph"
	"loanword/lower"
	"loanword/parse"
	"loanword/types"
	"loanword/typing"
)

// head is what statements that are looked at stand among; main is the function 5.
const head = "struct P { a: i64, b: Box<i64> } struct N { n: i64, t: bool } struct W { n: N, p: P } " +
	"fn one() -> i64 { return 1; } fn two(x: i64, y: bool) -> Box<i64> { return box(x); } fn ref<'a>(x: &'a P, y: &mut P) -> &'a P { return x; } " +
	"fn pack(p: P) -> W { return W { p: p, n: N { t: true, n: 1 } }; } fn same(n: N) -> N { return n; } "

// inMain is a file with these statements in its main.
func inMain(s string) string { return head + "fn main() -> i64 { " + s + " }" }

// typed is what typing answers of a text that it takes.
func typed(t *testing.T, s string) api.Typed {
	t.Helper()
	f, at, e := parse.File(s)
	if e != api.OK {
		t.Fatalf("%q: at %d, %v", s, at, e)
	}
	return typedTree(t, f)
}

func typedTree(t *testing.T, f api.Tree) api.Typed {
	t.Helper()
	x, n, e := typing.Of(f)
	if e != api.OK {
		t.Fatalf("node %d, %v", n, e)
	}
	return x
}

// unit is what Unit answers of a file that is small enough.
func unit(t *testing.T, x api.Typed) api.Unit {
	t.Helper()
	u, fn, e := lower.Unit(x)
	if e != api.OK || fn != 0 {
		t.Fatalf("function %d, %v", fn, e)
	}
	return u
}

// shown are the locals but those of the signature, and the points, of main's graph.
func shown(t *testing.T, u api.Unit) (locals, points []string) {
	t.Helper()
	g := u.Fns[u.Main]
	for n := range g.Locals[1:] {
		locals = append(locals, strings.TrimSpace(typeText(g.Locals[n+1])+" "+g.Names[n+1]))
	}
	points, e := graph.Lines(u, u.Main)
	if e != api.OK {
		fn, q, _ := graph.Check(u)
		t.Fatalf("function %d, point %d may not be: %+v", fn, q, u.Fns)
	}
	for q, s := range points {
		points[q] = strings.TrimPrefix(s, fmt.Sprintf("%d: ", q))
	}
	return locals, points
}

func typeText(x api.Type) string {
	s, e := types.Text(x)
	if e != api.OK {
		return "none"
	}
	return s
}

// mustLower asks for these locals and points (one behind the other, a ; between each two) of a main with these statements.
func mustLower(t *testing.T, statements, locals, points string) {
	t.Helper()
	u := unit(t, typed(t, inMain(statements)))
	gotLocals, gotPoints := shown(t, u)
	if want := split(locals); !slices.Equal(gotLocals, want) {
		t.Errorf("%s: locals\n%s; want\n%s", statements, strings.Join(gotLocals, "; "), strings.Join(want, "; "))
	}
	if want := split(points); !slices.Equal(gotPoints, want) {
		t.Errorf("%s: points\n%s; want\n%s", statements, strings.Join(gotPoints, "; "), strings.Join(want, "; "))
	}
}

func split(s string) []string {
	if s == "" {
		return nil
	}
	return strings.Split(s, "; ")
}

// mustRefuse asks all calls of a Typed that may not be.
func mustRefuse(t *testing.T, what string, x api.Typed) {
	t.Helper()
	u, fn, e := lower.Unit(x)
	if !reflect.DeepEqual(u, api.Unit{}) || fn != 0 || e != api.ErrArg {
		t.Fatalf("%s: Unit: %v, %d, %v", what, u, fn, e)
	}
	for n := range 2 {
		mustRefuseFn(t, what, x, n)
	}
}

// mustRefuseFn asks the calls that are told which function.
func mustRefuseFn(t *testing.T, what string, x api.Typed, fn int) {
	t.Helper()
	if g, e := lower.Fn(x, fn); !reflect.DeepEqual(g, api.Graph{}) || e != api.ErrArg {
		t.Fatalf("%s: Fn of %d: %v, %v", what, fn, g, e)
	}
	if points, locals, loans, e := lower.Size(x, fn); points != 0 || locals != 0 || loans != 0 || e != api.ErrArg {
		t.Fatalf("%s: Size of %d: %d, %d, %d, %v", what, fn, points, locals, loans, e)
	}
}

// loansOf is how many Borrows a graph has.
func loansOf(g api.Graph) int {
	n := 0
	for _, p := range g.Points {
		if p.Op == api.Borrow {
			n++
		}
	}
	return n
}

// numbered is a file each of whose nodes stands at its own number, so that a point's At tells for which node it was made.
func numbered(t *testing.T, x api.Typed) api.Typed {
	t.Helper()
	f := x.Tree
	f.Nodes = slices.Clone(f.Nodes)
	for n := range f.Nodes {
		f.Nodes[n].At = n
	}
	return typedTree(t, f)
}
