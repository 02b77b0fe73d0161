package parse_test

import (
	"math/rand"
	"strings"
	"testing"

	"loanword/api"
	"loanword/parse"
)

// times is s so many times, with the sign between each two.
func times(n int, s, between string) string {
	return strings.TrimSuffix(strings.Repeat(s+between, n), between)
}

// P4.1: a list has no more than tree lets it have; the sign behind the last one that may be does not go on.
func TestLists(t *testing.T) {
	for _, x := range []struct {
		part, head, one, between, tail string
	}{
		{"FILE", "struct S {", "f: i64", ",", "}"},
		{"FILE", "fn f(", "x: Box<bool>", ",", ") -> i64 { }"},
		{"FILE", "fn f<", "'a: 'b + 'c", ",", ">() -> i64 { }"},
		{"FILE", "fn f<'a: ", "'b", "+", ", 'c: 'd>() -> i64 { }"},
		{"FILE", "fn f() -> i64 { f(", "(1 + 2)", ",", "); }"},
		{"E", "f(", "f(1, 2)", ",", ")"},
		{"E", "S {", "f: S { g: 1, h: 2 }", ",", "}.f"},
	} {
		const most = 8
		for n := 1; n <= most+2; n++ {
			s := x.head + times(n, x.one, x.between) + x.tail
			if n > most {
				mustStop(t, x.part, s, len(x.head)+len(x.one)*most+len(x.between)*(most-1), api.ErrSyntax)
			} else if _, at, e := parts[x.part](s); at != 0 || e != api.OK {
				t.Errorf("%q: at %d, %v", s, at, e)
			}
		}
	}
}

// P4.1: a file has as many items, a block as many statements as one likes.
func TestLongLists(t *testing.T) {
	s := times(300, "struct S { f: i64 }", " ") + "fn f() -> i64 {" + times(1000, "f();", "") + "}"
	if x, at, e := parse.File(s); at != 0 || e != api.OK || len(x.Nodes[0].L) != 301 {
		t.Errorf("at %d, %v", at, e)
	}
}

// opener is a text that opens some signs, and what ends them.
type opener struct {
	text, end string
	signs     int
}

// openersOf: the first ones open one sign by their last token; in others more than that stands.
func openersOf(part string) []opener {
	switch part {
	case "TYPE":
		return []opener{{"Box<", ">", 1}, {"& ", "", 1}, {"& 'a mut Box<", ">", 2}, {"& mut & 'a ", "", 2}}
	case "E":
		return []opener{{"(", ")", 1}, {"-", "", 1}, {"!", "", 1}, {"*", "", 1}, {"& ", "", 1}, {"f(", ")", 1}, {"box(", ")", 1}, {"S { f: ", "}", 1},
			{"& mut ", "", 1}, {"f(1, -2, (3), ", ", (4))", 1}, {"(1 + f() * (", ") && read())", 2}, {"(-1 < (", "))", 2}, {"S { f: S { g: (1) }, h: ", ", i: -1 }.f", 1}}
	}
	return []opener{{"{", "}", 1}, {"loop {", "}", 1}, {"while x {", "} break;", 1}, {"if x {", "}", 1}, {"return 1; {", "}", 1},
		{"if S { f: (1) }.f { } else {", "}", 1}, {"{ } f(); {", "}", 1}, {"let x: &Box<i64>; loop {", "}", 1}, {"if -(1) == f() { if (x) {", "} else { } }", 2}}
}

// P4.1: ErrNest at the first token at which more than MaxOpen are open, whatever that token is; at the end there is no token.
func TestOpen(t *testing.T) {
	c := chance{rand.New(rand.NewSource(7))}
	for _, part := range []string{"TYPE", "E", "FILE"} {
		l := openersOf(part)
		for i := range 60 {
			head, tail, open := "", "", 0
			add := func(o opener) {
				head, tail = head+o.text, o.end+tail
				open += o.signs
			}
			if part == "FILE" {
				add(opener{"fn f(x: Box<i64>) -> Box<i64> {", "}", 1})
			}
			for open < 250 {
				add(l[c.Intn(len(l))])
			}
			for open < 256 {
				add(l[0])
			}
			mustNest(t, part, head, tail, l[i%2])
		}
	}
}

// mustNest is told a beginning at whose end MaxOpen are open.
func mustNest(t *testing.T, part, head, tail string, o opener) {
	t.Helper()
	inner := map[string]string{"TYPE": "i64", "E": "x", "FILE": "f();"}[part]
	if part == "FILE" {
		mustStop(t, part, head+tail+"->", len(head+tail), api.ErrSyntax)
	} else {
		mustStop(t, part, head+inner+tail+"->", len(head+inner+tail), api.ErrSyntax)
	}
	mustStop(t, part, head+o.text+inner+o.end+tail, len(head+o.text), api.ErrNest)
	mustStop(t, part, head+o.text+"->", len(head+o.text), api.ErrNest)
	mustStop(t, part, head+o.text, len(head+o.text), api.ErrSyntax)
	mustStop(t, part, head+"->", len(head), api.ErrSyntax)
	mustStop(t, part, head+o.text+"@", len(head+o.text), api.ErrLex)
}

// P4.1: a sign that holds nothing is open as far as the one that ends it.
func TestOpenOfNothing(t *testing.T) {
	for _, inner := range []string{"f()", "read()"} {
		head, tail := strings.Repeat("(", 255), strings.Repeat(")", 255)
		if x, at, e := parse.Expr(head + inner + tail); at != 0 || e != api.OK || len(x.Nodes) != 1 {
			t.Errorf("%s in 255: at %d, %v", inner, at, e)
		}
		mustStop(t, "E", "("+head+inner+tail+")", 256+len(inner)-1, api.ErrNest)
	}
	const fn = "fn f() -> i64 "
	braces := func(n int) string { return fn + strings.Repeat("{", n) + strings.Repeat("}", n) }
	if at, e := parse.Goes(braces(256)); at != 0 || e != api.OK {
		t.Errorf("256 blocks: at %d, %v", at, e)
	}
	mustStop(t, "FILE", braces(257), len(fn)+257, api.ErrNest)
}

// P4.1: the chapter's example; what is in brackets is no deeper for that.
func TestBrackets(t *testing.T) {
	for _, n := range []int{0, 1, 47, 48, 255, 256, 257, 258, 300} {
		s := strings.Repeat("(", n) + "1" + strings.Repeat(")", n)
		if n > 256 {
			mustStop(t, "E", s, 257, api.ErrNest)
		} else {
			mustTake(t, "E", s, api.Node{Kind: api.NInt, At: n, N: 1})
		}
	}
}

// P4.1: what has ended is open no more, and other signs never are: none of these texts has more than a few open.
func TestNotOpen(t *testing.T) {
	for _, s := range []string{
		"-x = !y;",
		"f(-x, &mut (y), S { f: !z });",
		"{ }",
		"let x: &'a mut Box<&Box<i64>>;",
		"if -x * y < z { } else { print(*x - -y); }",
	} {
		if at, e := parse.Goes("fn f<'a: 'b, 'c>(x: &i64) -> Box<&i64> { " + times(400, s, "") + " }"); at != 0 || e != api.OK {
			t.Errorf("%q: at %d, %v", s, at, e)
		}
	}
	for _, s := range []string{times(400, "-x", "+"), times(400, "*x.f", "*"), times(400, "(x)", "&&"), times(400, "f()", "-")} {
		mustStop(t, "E", s, 0, api.ErrNest)
	}
}

// P4.1: texts whose signs are open about as many times as may be, by chance.
func TestOpenByChance(t *testing.T) {
	c := chance{rand.New(rand.NewSource(8))}
	for range 400 {
		x := k(api.NBin, "+", 0, c.expression(2), c.expression(2))
		for range 30 {
			switch c.Intn(4) {
			case 0:
				x = k(api.NCall, "f", 0, c.expression(0), x, c.expression(1))
			case 1:
				x = k(api.NBin, c.one(signs...), 0, x, c.expression(1))
			case 2:
				x = k(api.NBin, c.one(signs...), 0, c.expression(1), x)
			case 3:
				x = k(api.NNeg, "", 0, x)
			}
			x.brackets = c.Intn(17)
		}
		mustRead(t, x, c.gap)
	}
}

// P4.1, P4.2: a tree of MaxNodes nodes, and of one more.
func TestLong(t *testing.T) {
	text := func(blocks int) string { return "fn f() -> i64 {" + strings.Repeat("{}", blocks) + "}" }
	if x, at, e := parse.File(text(api.MaxNodes - 4)); at != 0 || e != api.OK || len(x.Nodes) != api.MaxNodes {
		t.Errorf("at %d, %v, %d nodes", at, e, len(x.Nodes))
	}
	for _, more := range []int{1, 2, 5000} {
		s := text(api.MaxNodes - 4 + more)
		mustStop(t, "FILE", s, 0, api.ErrLong)
		if at, e := parse.Goes(s); at != 0 || e != api.OK {
			t.Errorf("Goes: at %d, %v", at, e)
		}
		mustStop(t, "FILE", s+"}", len(s), api.ErrSyntax)
		mustStop(t, "FILE", s+" struct", len(s)+7, api.ErrSyntax)
	}
}

// P4.1, P4.2: a tree of MaxNest, and one deeper.
func TestDeep(t *testing.T) {
	for _, n := range []int{46, 47, 48, 100, 256} {
		s := strings.Repeat("-", n) + "1"
		if n < 48 {
			if x, at, e := parse.Expr(s); at != 0 || e != api.OK || len(x.Nodes) != n+1 {
				t.Errorf("%d: at %d, %v", n, at, e)
			}
		} else {
			mustStop(t, "E", s, 0, api.ErrNest)
		}
	}
	file := func(blocks int) string {
		return "fn f() -> i64 " + strings.Repeat("{", blocks) + strings.Repeat("}", blocks)
	}
	if _, at, e := parse.File(file(46)); at != 0 || e != api.OK {
		t.Errorf("46 blocks: at %d, %v", at, e)
	}
	mustStop(t, "FILE", file(47), 0, api.ErrNest)
	if at, e := parse.Goes(file(47)); at != 0 || e != api.OK {
		t.Errorf("Goes of 47 blocks: at %d, %v", at, e)
	}
	chain := "fn f() -> i64 { if x { }" + strings.Repeat(" else if x { }", 3000) + "}"
	mustStop(t, "FILE", chain, 0, api.ErrNest)
	mustStop(t, "FILE", chain+"else", len(chain), api.ErrSyntax)
	mustStop(t, "TYPE", strings.Repeat("& ", 48)+"i64", 0, api.ErrNest)
}

// P4.1: too many nodes are told ahead of too deep ones, and what is too long for lex ahead of all.
func TestOrder(t *testing.T) {
	sum := times(api.MaxNodes/2+1, "1", "-")
	mustStop(t, "E", sum, 0, api.ErrLong)
	mustStop(t, "E", times(api.MaxNodes/2, "1", "-"), 0, api.ErrNest)
	mustStop(t, "E", sum+"-", len(sum)+1, api.ErrSyntax)
	mustStop(t, "E", sum+" 1", len(sum)+1, api.ErrSyntax)
	mustStop(t, "E", times(api.MaxSource/2, "1", "-")+" ", 0, api.ErrLong)

	blanks := func(n int) string { return strings.Repeat(" ", n) }
	mustStop(t, "FILE", blanks(api.MaxSource)+"@", 0, api.ErrLong)
	if at, e := parse.Goes(blanks(api.MaxSource + 1)); at != 0 || e != api.ErrLong {
		t.Errorf("Goes of a text that is too long: at %d, %v", at, e)
	}
	if _, at, e := parse.File(blanks(api.MaxSource)); at != 0 || e != api.OK {
		t.Errorf("a text of MaxSource: at %d, %v", at, e)
	}
	for part := range parts {
		mustStop(t, part, ") 007", 3, api.ErrLex)
		mustStop(t, part, "( |", 3, api.ErrLex)
		mustStop(t, part, "_", 0, api.ErrLex)
	}
	mustStop(t, "E", ")"+strings.Repeat("(", 300), 0, api.ErrSyntax)
	mustStop(t, "E", strings.Repeat("(", 256)+")"+strings.Repeat("(", 300), 256, api.ErrSyntax)
	mustStop(t, "E", strings.Repeat("(", 257)+")", 257, api.ErrNest)
	mustStop(t, "E", strings.Repeat("(", 258), 257, api.ErrNest)
	mustStop(t, "E", strings.Repeat("(", 257)+" // end", 264, api.ErrSyntax)
}
