package parse_test

import (
	"reflect"
	"testing"

	"loanword/api"
	"loanword/lex"
	"loanword/parse"
)

type parses func(string) (api.Tree, int, api.Errno)

// parts: what parse reads, by the grammar's names.
var parts = map[string]parses{"FILE": parse.File, "E": parse.Expr, "TYPE": parse.Type}

func partOf(x *knot) string {
	switch {
	case x.n.Kind == api.NFile:
		return "FILE"
	case x.n.Kind >= api.NInt:
		return "E"
	}
	return "TYPE"
}

func deep(x *knot) int {
	d := 0
	for _, kid := range x.kids {
		d = max(d, deep(kid))
	}
	return d + 1
}

// judged is what P4.1 asks of the text that a writer made of x.
func judged(w *writer, x *knot) (api.Tree, int, api.Errno) {
	t := flat(x)
	switch {
	case w.text.Len() > api.MaxSource:
		return api.Tree{}, 0, api.ErrLong
	case w.wrong >= 0:
		return api.Tree{}, w.wrong, api.ErrNest
	case len(t.Nodes) > api.MaxNodes:
		return api.Tree{}, 0, api.ErrLong
	case deep(x) > api.MaxNest:
		return api.Tree{}, 0, api.ErrNest
	}
	return t, 0, api.OK
}

// mustRead writes x, and holds what parse says of the text against it; it answers the text.
func mustRead(t *testing.T, x *knot, gap func() string) string {
	t.Helper()
	w := newWriter(gap)
	w.write(x)
	w.text.WriteString(gap())
	s := w.text.String()
	want, at, e := judged(w, x)
	got, gotAt, gotE := parts[partOf(x)](s)
	if gotAt != at || gotE != e || !reflect.DeepEqual(got, want) {
		t.Fatalf("%q: %v, at %d, %v, not %v, at %d, %v", s, got, gotAt, gotE, want, at, e)
	}
	mustGo(t, s)
	return s
}

// mustGo holds Goes against what File says of the text.
func mustGo(t *testing.T, s string) {
	t.Helper()
	_, fileAt, fileE := parse.File(s)
	if fileAt == 0 && len(s) <= api.MaxSource && (fileE == api.ErrLong || fileE == api.ErrNest) {
		fileE = api.OK
	}
	if goesAt, goesE := parse.Goes(s); goesAt != fileAt || goesE != fileE {
		t.Fatalf("Goes(%q): at %d, %v; File: at %d, %v", s, goesAt, goesE, fileAt, fileE)
	}
}

// mustStop asks for an error at a place, and for nothing beside it.
func mustStop(t *testing.T, part, s string, at int, e api.Errno) {
	t.Helper()
	got, gotAt, gotE := parts[part](s)
	if gotAt != at || gotE != e || len(got.Nodes) != 0 {
		t.Fatalf("%s of %.200q: %v, at %d, %v; not at %d, %v", part, s, got, gotAt, gotE, at, e)
	}
	mustGo(t, s)
}

// mustTake asks for a tree, places and all.
func mustTake(t *testing.T, part, s string, want ...api.Node) {
	t.Helper()
	got, at, e := parts[part](s)
	if at != 0 || e != api.OK || !reflect.DeepEqual(got.Nodes, want) {
		t.Fatalf("%s of %q: %v, at %d, %v; not %v", part, s, got.Nodes, at, e, want)
	}
	mustGo(t, s)
}

// mustLex sees to it that a text of these tests fails for no lesser reason.
func mustLex(t *testing.T, s string) {
	t.Helper()
	if _, at, e := lex.Lex(s); e != api.OK {
		t.Fatalf("%q is not lexed: at %d, %v", s, at, e)
	}
}
