package typing_test

import (
	"reflect"
	"strings"
	"testing"

	"loanword/api"
	"loanword/parse"
	"loanword/types"
	"loanword/typing"
)

// head is the struct of the chapter's examples, and some more, for statements that are looked at.
const head = "struct P { a: i64, b: Box<i64> } struct Q { p: P, q: Box<Q>, t: bool } " +
	"fn one() -> i64 { return 1; } fn two(x: i64, y: bool) -> Box<i64> { return box(x); } fn ref<'a>(x: &'a P, y: &mut P) -> &'a P { return x; } "

// inMain is a file with these statements in its main.
func inMain(s string) string { return head + "fn main() -> i64 { " + s + " return 0; }" }

// file is the tree of a text.
func file(t *testing.T, s string) api.Tree {
	t.Helper()
	f, at, e := parse.File(s)
	if e != api.OK {
		t.Fatalf("%q: at %d, %v", s, at, e)
	}
	return f
}

// marked is the tree of a text without its mark, some @ in a row, and the node that is meant: of one @ the first one but the root that stands where the mark was, of two the second one; 0, if there is no mark.
func marked(t *testing.T, s string) (api.Tree, int) {
	t.Helper()
	place, which := strings.Index(s, "@"), strings.Count(s, "@")
	f := file(t, strings.ReplaceAll(s, "@", ""))
	if place < 0 {
		return f, 0
	}
	for n, x := range f.Nodes {
		if n > 0 && x.At == place {
			if which--; which == 0 {
				return f, n
			}
		}
	}
	t.Fatalf("%q: no node stands at the mark", s)
	return f, 0
}

// of is what Of answers of a text that it takes.
func of(t *testing.T, s string) api.Typed {
	t.Helper()
	x, at, e := typing.Of(file(t, s))
	if e != api.OK || at != 0 {
		t.Fatalf("%q: at %d, %v", s, at, e)
	}
	return x
}

// text is a type as layer 6 tells it; of the zero type a bar.
func text(x api.Type) string {
	s, e := types.Text(x)
	if e != api.OK {
		return "-"
	}
	return s
}

// mustTell asks for this error of a text at its mark, or for none.
func mustTell(t *testing.T, s string, want api.Errno) {
	t.Helper()
	f, wantAt := marked(t, s)
	if _, at, e := typing.Of(f); at != wantAt || e != want {
		t.Errorf("%q: at %d, %v; want at %d, %v", s, at, e, wantAt, want)
	}
	mustHold(t, f)
}

// mustHold holds Of of a tree against what is said of it, and what it answers against May.
func mustHold(t *testing.T, f api.Tree) (api.Typed, api.Errno) {
	t.Helper()
	want, wantAt, wantE := plainOf(f)
	x, at, e := typing.Of(f)
	if at != wantAt || e != wantE {
		t.Fatalf("%s: at %d, %v; want at %d, %v", shown(f), at, e, wantAt, wantE)
	}
	if !reflect.DeepEqual(x, want) {
		t.Fatalf("%s: %v; want %v", shown(f), x, want)
	}
	if typing.May(x) != (e == api.OK) {
		t.Fatalf("%s: May says %v of the answer", shown(f), e != api.OK)
	}
	return x, e
}

// mustAsk holds the other calls against what is said of each node of a file that is well, and of two beside them.
func mustAsk(t *testing.T, x api.Typed) {
	t.Helper()
	p, _, _ := plainFile(x.Tree)
	for n := -1; n <= len(x.Tree.Nodes); n++ {
		there := n >= 0 && n < len(x.Tree.Nodes)
		place := there && p.isPlace(n)
		if typing.Place(x, n) != place {
			t.Fatalf("%s: Place of %d: %v", shown(x.Tree), n, !place)
		}
		var wantRef, wantShared bool
		if place {
			wantRef, wantShared = p.through(n)
		}
		if ref, shared := typing.Through(x, n); ref != wantRef || shared != wantShared {
			t.Fatalf("%s: Through of %d: %v, %v", shown(x.Tree), n, ref, shared)
		}
		if moved := place && p.moved(n); typing.Moves(x, n) != moved {
			t.Fatalf("%s: Moves of %d: %v", shown(x.Tree), n, !moved)
		}
		fn, e := typing.Fn(x, n)
		wantFn, ok := 0, false
		if there {
			wantFn, ok = p.number(n)
		}
		if fn != wantFn || ok && e != api.OK || !ok && e != api.ErrArg {
			t.Fatalf("%s: Fn of %d: %d, %v", shown(x.Tree), n, fn, e)
		}
		mustScope(t, x, p, n, there)
	}
}

func mustScope(t *testing.T, x api.Typed, p plain, n int, there bool) {
	t.Helper()
	var want []int
	wantE := api.ErrArg
	if there && p.inBody(n) {
		wantE = api.OK
		for number, m := range p.variables(p.fn(n)) {
			if p.scoped(m, n) {
				want = append(want, number)
			}
		}
	}
	l, e := typing.Scope(x, n)
	if e != wantE || len(l)+len(want) > 0 && !reflect.DeepEqual(l, want) {
		t.Fatalf("%s: Scope of %d: %v, %v; want %v, %v", shown(x.Tree), n, l, e, want, wantE)
	}
}

// replaced is a text in which each first one of two stands as the second one; all of the first ones must be there.
func replaced(s string, l ...string) string {
	for i := 0; i < len(l); i += 2 {
		if !strings.Contains(s, l[i]) {
			panic(l[i])
		}
		s = strings.Replace(s, l[i], l[i+1], 1)
	}
	return s
}
