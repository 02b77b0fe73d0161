package parse_test

import (
	"math/rand"
	"testing"

	"loanword/api"
	"loanword/parse"
)

// P4.1: the chapter's examples that stop.
func TestStopExamples(t *testing.T) {
	for _, x := range []struct {
		part, s string
		at      int
	}{
		{"E", "a < b < c", 6},
		{"E", "&&x", 0},
		{"E", "-x.f(1)", 4},
		{"TYPE", "Box<i64", 7},
		{"TYPE", "& &", 3},
		{"FILE", "fn f() -> i64 { x; }", 17},
		{"FILE", "fn f() { }", 7},
		{"FILE", "fn f(x: i64,) -> i64 { }", 12},
		{"FILE", "fn f() -> i64 { let x; }", 21},
		{"FILE", "struct S { }", 11},
		{"E", "S", 1},
	} {
		mustStop(t, x.part, x.s, x.at, api.ErrSyntax)
	}
}

// P4.1: what was lexed well, but is no such text, or is more than one.
func TestStops(t *testing.T) {
	for _, x := range []struct {
		part, s string
		at      int
	}{
		{"E", "1 2", 2},
		{"E", "a < (b < c", 10},
		{"E", "a == b != c", 7},
		{"E", "a || b < c && d <= e > f", 21},
		{"E", "a && b == c == d", 12},
		{"E", "a + b == c < d", 11},
		{"E", "f(1,)", 4},
		{"E", "f(1", 3},
		{"E", "f(,", 2},
		{"E", "x()()", 3},
		{"E", "(x)(1)", 3},
		{"E", "x.1", 2},
		{"E", "x.S", 2},
		{"E", "x.f()", 3},
		{"E", "S {}", 3},
		{"E", "S { f: 1, }", 10},
		{"E", "S { F: 1 }", 4},
		{"E", "s { f: 1 }", 2},
		{"E", "box()", 4},
		{"E", "box(1, 2)", 5},
		{"E", "box 1", 4},
		{"E", "read(1)", 5},
		{"E", "read", 4},
		{"E", "print(1)", 0},
		{"E", "()", 1},
		{"E", "mut x", 0},
		{"E", "&mut mut x", 5},
		{"E", "& 'a x", 2},
		{"E", "a & b", 2},
		{"E", "a ! b", 2},
		{"E", "a && && b", 5},
		{"E", "a = b", 2},
		{"E", "i64", 0},
		{"E", "Box<i64>", 0},
		{"TYPE", "&&i64", 0},
		{"TYPE", "&mut 'a i64", 5},
		{"TYPE", "& 'a 'b i64", 5},
		{"TYPE", "Box i64", 4},
		{"TYPE", "Box<i64>=", 7},
		{"TYPE", "Box<>", 4},
		{"TYPE", "S<i64>", 1},
		{"TYPE", "x", 0},
		{"TYPE", "(i64)", 0},
		{"TYPE", "box", 0},
		{"FILE", "1", 0},
		{"FILE", "let", 0},
		{"FILE", "struct s", 7},
		{"FILE", "struct Box", 7},
		{"FILE", "struct S { x: i64, }", 19},
		{"FILE", "struct S { x: i64; }", 17},
		{"FILE", "struct S { x i64", 13},
		{"FILE", "struct S { x: i64 };", 19},
		{"FILE", "fn F", 3},
		{"FILE", "fn f<>", 5},
		{"FILE", "fn f<'a,>", 8},
		{"FILE", "fn f<'a:>", 8},
		{"FILE", "fn f<'a: 'b +, 'c>", 13},
		{"FILE", "fn f<'a + 'b>", 8},
		{"FILE", "fn f<a>", 5},
		{"FILE", "fn f<'a>=", 7},
		{"FILE", "fn f(x)", 6},
		{"FILE", "fn f(mut x: i64)", 5},
		{"FILE", "fn f() -> i64;", 13},
		{"FILE", "fn f() -> i64 { } ;", 18},
		{"FILE", "fn f() -> i64 {", 15},
	} {
		mustLex(t, x.s)
		mustStop(t, x.part, x.s, x.at, api.ErrSyntax)
	}
}

// P4.1: statements that stop: the place counts from behind the brace.
func TestStatementStops(t *testing.T) {
	const head = "fn f() -> i64 {"
	for _, x := range []struct {
		s  string
		at int
	}{
		{"(f());", 5},
		{"(f() = 1;", 5},
		{"((f()));", 7},
		{"f() + 1;", 7},
		{"-f();", 4},
		{"f().g;", 5},
		{"f()", 3},
		{"f() }", 4},
		{"x = 1 }", 6},
		{"x = y = z;", 6},
		{"x == 1;", 6},
		{"let x: i64 == 1;", 11},
		{"let x: Box<i64>= 1;", 14},
		{"let X = 1;", 4},
		{"let mut x = 1;", 4},
		{"let x = ;", 8},
		{"if x ;", 5},
		{"if { }", 3},
		{"if x { } else ;", 14},
		{"if x { } else while", 14},
		{"else { }", 0},
		{"while { }", 6},
		{"loop x", 5},
		{"break 1;", 6},
		{"break }", 6},
		{"continue,", 8},
		{"return;", 6},
		{"return 1 }", 9},
		{"print 1;", 6},
		{"print(1, 2);", 7},
		{"print();", 6},
		{"print(1)", 8},
		{"print(1) }", 9},
		{"{ ;", 2},
		{";", 0},
		{"struct S { x: i64 }", 0},
		{"fn", 0},
		{"1", 1},
		{"1;", 1},
		{"S;", 1},
		{"S { };", 4},
	} {
		mustLex(t, head+x.s)
		mustStop(t, "FILE", head+x.s, len(head)+x.at, api.ErrSyntax)
	}
}

// P4.1: statements that are taken, though they may look odd.
func TestOddStatements(t *testing.T) {
	for _, s := range []string{"f();", "(f()) = 1;", "f() = 1;", "1 + 2 = 3;", "S { f: 1 }.f = 2;", "if S { f: true }.f { }", "if x { } else if y { } else { }", "{ { } }", "-f() = 1;", "read() = box(1);", "if f() { } f();"} {
		if at, e := parse.Goes("fn f() -> i64 {" + s + "}"); at != 0 || e != api.OK {
			t.Errorf("%q: at %d, %v", s, at, e)
		}
	}
}

// mustFollow holds parse against the grammar at the row of tokens that the chart has, and at each row with a token more; it answers with which ones the row goes on.
func mustFollow(t *testing.T, c *chart, tokens []string) []string {
	t.Helper()
	s, _ := spelt(tokens...)
	if !c.whole() {
		mustStop(t, c.what, s, len(s), api.ErrSyntax)
	} else if x, at, e := parts[c.what](s); at != 0 || e != api.OK || len(x.Nodes) == 0 {
		t.Fatalf("%s of %q: at %d, %v", c.what, s, at, e)
	}
	l := c.expected(allTokens)
	goes := map[string]bool{}
	for _, token := range l {
		goes[token] = true
	}
	for _, token := range allTokens {
		if goes[token] {
			continue
		}
		s, places := spelt(append(tokens[:len(tokens):len(tokens)], token, "x", ")")...)
		mustStop(t, c.what, s, places[len(tokens)], api.ErrSyntax)
	}
	return l
}

// followAll goes over all rows of up to so many tokens more.
func followAll(t *testing.T, c *chart, tokens []string, more int) {
	t.Helper()
	l := mustFollow(t, c, tokens)
	if more == 0 {
		return
	}
	for _, token := range l {
		if !c.push(token) {
			t.Fatalf("the chart's own %q is refused", token)
		}
		followAll(t, c, append(tokens[:len(tokens):len(tokens)], token), more-1)
		c.pop()
	}
}

// P4.1, P4.4: all rows of few tokens that go on, from the beginning on and from some places within a file.
func TestAllRows(t *testing.T) {
	g := theGrammar()
	for _, x := range []struct {
		part  string
		ahead []string
		more  int
	}{
		{"TYPE", nil, 5},
		{"E", nil, 2},
		{"E", []string{"-"}, 2},
		{"E", []string{"x", "<", "x"}, 2},
		{"E", []string{"S", "{"}, 2},
		{"FILE", nil, 6},
		{"FILE", []string{"struct", "S", "{", "x", ":"}, 5},
		{"FILE", []string{"fn", "x", "<"}, 5},
		{"FILE", []string{"fn", "x", "(", "x", ":"}, 4},
		{"FILE", []string{"fn", "x", "(", ")", "->", "S", "{"}, 2},
		{"FILE", []string{"fn", "x", "(", ")", "->", "S", "{", "x", "("}, 2},
		{"FILE", []string{"fn", "x", "(", ")", "->", "S", "{", "(", "x", "(", ")"}, 2},
		{"FILE", []string{"fn", "x", "(", ")", "->", "S", "{", "if", "x", "{", "}"}, 1},
		{"FILE", []string{"fn", "x", "(", ")", "->", "S", "{", "if", "x", "{", "}", "else"}, 2},
		{"FILE", []string{"fn", "x", "(", ")", "->", "S", "{", "let", "x", ":"}, 3},
		{"FILE", []string{"fn", "x", "(", ")", "->", "S", "{", "print"}, 4},
	} {
		c := newChart(g, x.part)
		for _, token := range x.ahead {
			if !c.push(token) {
				t.Fatalf("%v does not go on", x.ahead)
			}
		}
		followAll(t, c, x.ahead, x.more)
	}
}

// P4.1, P4.4: long rows, by chance, held against the grammar at each of their tokens.
func TestLongRows(t *testing.T) {
	g := theGrammar()
	c := chance{rand.New(rand.NewSource(6))}
	for i := range 42 {
		ch := newChart(g, []string{"FILE", "E", "TYPE"}[i%3])
		var tokens []string
		for range 60 {
			l := mustFollow(t, ch, tokens)
			if len(l) == 0 {
				break
			}
			token := c.one(l...)
			ch.push(token)
			tokens = append(tokens, token)
		}
	}
}
