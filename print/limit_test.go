package print_test

import (
	"slices"
	"strings"
	"testing"

	"loanword/api"
	"loanword/print"
	"loanword/tree"
)

// answer is what a call says of a tree: whether there is anything beside the error, and that.
type answer struct {
	call string
	some bool
	e    api.Errno
}

func answers(t api.Tree) []answer {
	file, fileE := print.File(t)
	expr, exprE := print.Expr(t)
	typ, typE := print.Type(t)
	lines, linesE := print.Lines(t)
	return []answer{{"File", file != "", fileE}, {"Expr", expr != "", exprE}, {"Type", typ != "", typE}, {"Lines", len(lines) > 0, linesE}}
}

// someKnots has a knot of each kind, from NFile on.
func someKnots() []*knot {
	e, call := v("x"), k(api.NCall, "f", 0)
	fn := k(api.NFn, "f", 0, aType, block())
	return []*knot{
		k(api.NFile, "", 0, fn), k(api.NStruct, "S", 0, k(api.NField, "f", 0, aType)), k(api.NField, "f", 0, aType), fn,
		k(api.NLife, "a", 0), k(api.NBound, "a", 0), k(api.NParam, "p", 0, aType),
		aType, k(api.NTyBool, "", 0), k(api.NTyBox, "", 0, aType), k(api.NTyRef, "a", 1, aType), k(api.NTyName, "S", 0),
		block(), k(api.NLet, "x", 2, e), k(api.NAssign, "", 0, e, e), k(api.NIf, "", 0, e, block()), k(api.NWhile, "", 0, e, block()),
		k(api.NLoop, "", 0, block()), aBreak, k(api.NContinue, "", 0), k(api.NReturn, "", 0, e), k(api.NPrint, "", 0, e), k(api.NExpr, "", 0, call),
		k(api.NInt, "", 1), k(api.NBool, "", 1), e, k(api.NDot, "f", 0, e), k(api.NDeref, "", 0, e), k(api.NRef, "", 1, e), k(api.NNeg, "", 0, e),
		k(api.NNot, "", 0, e), bin("&&", e, e), call, k(api.NMake, "S", 0, k(api.NInit, "f", 0, e)), k(api.NInit, "f", 0, e), k(api.NBox, "", 0, e), k(api.NRead, "", 0),
	}
}

// takers: the calls that take a tree with a root of this kind, by the chapter.
func takers(kind api.NodeKind) []string {
	switch {
	case kind == api.NFile:
		return []string{"File", "Lines"}
	case kind == api.NStruct, kind == api.NFn, kind >= api.NBlock && kind <= api.NExpr:
		return []string{"Lines"}
	case kind >= api.NTyInt && kind <= api.NTyName:
		return []string{"Type"}
	case kind >= api.NInt && kind != api.NInit:
		return []string{"Expr"}
	}
	return nil
}

// P5.1, P5.2: each kind of root; each call takes those of its own kinds, and refuses all others.
func TestRoots(t *testing.T) {
	for i, x := range someKnots() {
		f := flat(x)
		if x.n.Kind != api.NodeKind(i+1) || !tree.May(f) {
			t.Fatalf("kind %d: %v", i+1, f.Nodes)
		}
		for _, a := range answers(f) {
			if takes := slices.Contains(takers(x.n.Kind), a.call); takes != a.some || takes != (a.e == api.OK) || !takes && a.e != api.ErrArg {
				t.Errorf("%s of kind %d: some %v, %v", a.call, i+1, a.some, a.e)
			}
		}
	}
}

// P5.1, P5.2, rule 6: no call takes a tree that may not be.
func TestUnsound(t *testing.T) {
	number := api.Node{Kind: api.NInt, N: 1}
	deep := func(kind api.NodeKind, x *knot) *knot {
		for range api.MaxNest {
			x = k(kind, "", 0, x)
		}
		return x
	}
	blocks := block()
	for range api.MaxNodes {
		blocks.kids = append(blocks.kids, block())
	}
	for i, f := range []api.Tree{
		{},
		{Nodes: []api.Node{}},
		{Nodes: []api.Node{{}}},
		{Nodes: []api.Node{{Kind: api.NInt, N: -1}}},
		{Nodes: []api.Node{{Kind: api.NInt, At: -1}}},
		{Nodes: []api.Node{{Kind: api.NRead + 1}}},
		{Nodes: []api.Node{{Kind: api.NBool, N: 2}}},
		{Nodes: []api.Node{{Kind: api.NVar, S: "let"}}},
		{Nodes: []api.Node{{Kind: api.NTyName, S: "Box"}}},
		{Nodes: []api.Node{{Kind: api.NNeg, L: []int{0}}}},
		{Nodes: []api.Node{{Kind: api.NNeg, L: []int{9}}}},
		{Nodes: []api.Node{{Kind: api.NNeg, L: []int{-1}}}},
		{Nodes: []api.Node{{Kind: api.NNeg}}},
		{Nodes: []api.Node{{Kind: api.NNeg, L: []int{1}}, number, number}},
		{Nodes: []api.Node{{Kind: api.NBin, S: "<>", L: []int{1, 2}}, number, number}},
		{Nodes: []api.Node{{Kind: api.NBin, S: "-", L: []int{2, 1}}, number, number}},
		{Nodes: []api.Node{{Kind: api.NBlock, L: []int{1}}, number}},
		{Nodes: []api.Node{{Kind: api.NFile, L: []int{0}}}},
		{Nodes: []api.Node{{Kind: api.NFn, S: "f", N: 1}}},
		{Nodes: []api.Node{{Kind: api.NTyBox, L: []int{1}}, number}},
		flat(deep(api.NNeg, v("x"))),
		flat(deep(api.NTyBox, aType)),
		flat(deep(api.NBlock, block())),
		flat(blocks),
	} {
		for _, a := range answers(f) {
			if a.some || a.e != api.ErrArg {
				t.Errorf("%s of tree %d: some %v, %v", a.call, i, a.some, a.e)
			}
		}
		if level, e := print.Level(f, 0); level != 0 || e != api.ErrArg {
			t.Errorf("Level of tree %d: %d, %v", i, level, e)
		}
	}
}

// P5.1: of the deepest trees that may be.
func TestDeepest(t *testing.T) {
	x, y, z := v("x"), aType, block()
	for range api.MaxNest - 1 {
		x, y, z = k(api.NRef, "", 0, x), k(api.NTyRef, "", 0, y), block(z)
	}
	mustTell(t, x, strings.Repeat("& ", api.MaxNest-2)+"&x")
	mustTell(t, y, strings.Repeat("& ", api.MaxNest-2)+"&i64")
	mustTell(t, z, plainText(z))
}

// stretch makes the names of variables longer till the text of x has so many bytes more.
func stretch(t *testing.T, x *knot, by int) {
	t.Helper()
	for _, one := range below(x) {
		for one.n.Kind == api.NVar && len(one.n.S) < api.MaxName && by > 0 {
			one.n.S += "x"
			by--
		}
	}
	if by != 0 {
		t.Fatalf("%d bytes are left", by)
	}
}

// wide is an expression of many variables, and not deep.
func wide(deep int) *knot {
	if deep == 0 {
		return v("x")
	}
	x := k(api.NCall, "f", 0)
	for range 7 {
		x.kids = append(x.kids, wide(deep-1))
	}
	return x
}

// P5.1: an expression of MaxSource bytes has a text, one of a byte more has none.
func TestLongExpr(t *testing.T) {
	x := wide(4)
	x = bin("-", k(api.NNeg, "", 0, x), wide(3))
	stretch(t, x, api.MaxSource-len(plainText(x)))
	want := plainText(x)
	if s, e := print.Expr(flat(x)); e != api.OK || s != want || len(s) != api.MaxSource {
		t.Fatalf("%d bytes, %v; want %d", len(s), e, len(want))
	}
	longer := k(api.NNot, "", 0, x)
	if s, e := print.Expr(flat(longer)); s != "" || e != api.ErrLong {
		t.Errorf("a byte more: %d bytes, %v", len(s), e)
	}
	for _, a := range answers(flat(longer)) {
		if a.call != "Expr" && (a.some || a.e != api.ErrArg) {
			t.Errorf("%s: %v", a.call, a.e)
		}
	}
}

// longBody is a block of many statements, whose text, with a byte 10 behind each line and what else is said, has MaxSource bytes.
func longBody(t *testing.T, more int) *knot {
	t.Helper()
	x := block()
	for range 1500 {
		x.kids = append(x.kids, k(api.NIf, "", 0, v("x"), block(k(api.NPrint, "", 0, v("x")))))
	}
	stretch(t, x, api.MaxSource-len(plainText(x))-1-more)
	return x
}

// P5.1, P5.2: a file and a statement of MaxSource bytes, each line with a byte more, have lines, those of a byte more have none.
func TestLongLines(t *testing.T) {
	for _, more := range []int{0, 1} {
		x := longBody(t, -more)
		wantE := []api.Errno{api.OK, api.ErrLong}[more]
		l, e := print.Lines(flat(x))
		if e != wantE || (len(l) > 0) != (e == api.OK) || e == api.OK && strings.Join(l, "\n") != plainText(x) {
			t.Errorf("Lines with %d more: %d, %v", more, len(l), e)
		}
		const head = "fn f() -> i64 "
		f := flat(k(api.NFile, "", 0, k(api.NFn, "f", 0, aType, longBody(t, len(head)-more))))
		s, e := print.File(f)
		if e != wantE || e == api.OK && len(s) != api.MaxSource || e != api.OK && s != "" {
			t.Errorf("File with %d more: %d bytes, %v", more, len(s), e)
		}
		if l, e := print.Lines(f); e != wantE || (len(l) > 0) != (e == api.OK) {
			t.Errorf("Lines of the file with %d more: %d, %v", more, len(l), e)
		}
		if s, e := print.Expr(f); s != "" || e != api.ErrArg {
			t.Errorf("Expr of the file with %d more: %v", more, e)
		}
	}
}

// P5.1, P5.2: the longest texts there could be.
func TestFarTooLong(t *testing.T) {
	inner := block()
	for range api.MaxNodes - 100 {
		inner.kids = append(inner.kids, k(api.NContinue, "", 0))
	}
	for range 44 {
		inner = block(inner)
	}
	f := flat(k(api.NFile, "", 0, k(api.NFn, "f", 0, aType, inner)))
	if !tree.May(f) {
		t.Fatal("a tree that may not be")
	}
	for _, a := range answers(f) {
		want := api.ErrArg
		if slices.Contains(takers(api.NFile), a.call) {
			want = api.ErrLong
		}
		if a.some || a.e != want {
			t.Errorf("%s: %v", a.call, a.e)
		}
	}
}
