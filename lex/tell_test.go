package lex_test

import (
	"math"
	"math/rand"
	"strings"
	"testing"

	"loanword/api"
	"loanword/lex"
)

// wrongTokens are tokens that may not be.
func wrongTokens() []api.Token {
	l := []api.Token{{}, {S: "x"}, {N: 1}, {Kind: api.TokInt, N: -1}, {Kind: api.TokInt, N: math.MinInt64}, {Kind: api.TokInt, S: "0"}, {Kind: api.TokInt, N: 5, S: "5"}}
	rows := []struct {
		kind api.TokenKind
		all  []string
	}{
		{api.TokWord, []string{"", "x", "FN", "fn ", " fn", "f", "fnx", "box1", "BOX", "+", "0", "'fn", "Fn", "//fn"}},
		{api.TokName, []string{"", "fn", "i64", "bool", "true", "X", "xY", "_x", "0", "5x", "'x", "x ", " x", "x-y", "x.y", "x|", "ä", "x\x00", "x//", "=", strings.Repeat("n", 33), strings.Repeat("n", 1<<17)}},
		{api.TokType, []string{"", "Box", "x", "fn", "_X", "0X", "X ", " X", "X-Y", "'X", "X\xff", strings.Repeat("N", 33), strings.Repeat("N", 1<<17)}},
		{api.TokLife, []string{"", "fn", "Box", "X", "'a", "aB", "_a", "0", "a ", " a", "a'", strings.Repeat("n", 33)}},
		{api.TokSign, []string{"", "|", "//", "&&&", "=>", "==>", "++", "--", "< ", " <", "x", "@", "fn", "'", "\n", "/ ", "// ", "0", "[", "]", "\"", "->>", "{}"}},
	}
	for _, r := range rows {
		for _, s := range r.all {
			l = append(l, api.Token{Kind: r.kind, S: s})
		}
	}
	for _, t := range someTokens() {
		low, many, none, beyond := t, t, t, t
		low.At = -1
		none.Kind = api.NoToken
		beyond.Kind = api.TokSign + 1
		if t.Kind == api.TokInt {
			many.S = "x"
		} else {
			many.N = 1
		}
		l = append(l, low, many, none, beyond)
		low.At = math.MinInt
		beyond.Kind = 255
		l = append(l, low, beyond)
	}
	return l
}

// P2.2: tokens that may be, and their texts.
func TestMayAndText(t *testing.T) {
	for _, x := range someTokens() {
		for _, at := range []int{0, 1, api.MaxSource + 1, math.MaxInt} {
			x.At = at
			if s, e := lex.Text(x); !lex.May(x) || s != plainText(x) || e != api.OK {
				t.Errorf("%v: May %v, Text %q, %v", x, lex.May(x), s, e)
			}
		}
	}
	if s, e := lex.Text(api.Token{Kind: api.TokInt, N: math.MaxInt64}); s != "9223372036854775807" || e != api.OK {
		t.Errorf("Text of the greatest number: %q, %v", s, e)
	}
	if s, e := lex.Text(api.Token{Kind: api.TokLife, S: "a"}); s != "'a" || e != api.OK {
		t.Errorf("Text of a lifetime: %q, %v", s, e)
	}
}

// P2.2: each word and name as each kind: it may be of one alone.
func TestMayOneKind(t *testing.T) {
	for _, x := range someTokens() {
		if x.Kind == api.TokInt {
			continue
		}
		for kind := range 256 {
			y := api.Token{Kind: api.TokenKind(kind), S: x.S}
			want := y.Kind == x.Kind || x.Kind == api.TokName && y.Kind == api.TokLife || x.Kind == api.TokLife && y.Kind == api.TokName
			if lex.May(y) != want {
				t.Errorf("May(%v): %v", y, !want)
			}
		}
	}
}

// P2.2: tokens that may not be, alone and among others.
func TestMayNot(t *testing.T) {
	x := api.Token{Kind: api.TokName, S: "x"}
	for _, wrong := range wrongTokens() {
		if s, e := lex.Text(wrong); lex.May(wrong) || s != "" || e != api.ErrArg {
			t.Errorf("%v: May %v, Text %q, %v", wrong, lex.May(wrong), s, e)
		}
		for _, l := range [][]api.Token{{wrong}, {wrong, x}, {x, wrong}, {x, wrong, x}, {wrong, wrong}} {
			mustNotJoin(t, l, api.ErrArg)
		}
	}
}

func mustNotJoin(t *testing.T, l []api.Token, want api.Errno) {
	t.Helper()
	if s, e := lex.Join(l...); s != "" || e != want {
		t.Fatalf("Join of %d tokens: %d bytes, %v; want %v", len(l), len(s), e, want)
	}
	if s, e := lex.Tight(l...); s != "" || e != want {
		t.Fatalf("Tight of %d tokens: %d bytes, %v; want %v", len(l), len(s), e, want)
	}
}

// P2.2: the example of the chapter, no tokens, one.
func TestJoinExamples(t *testing.T) {
	l := mustLex(t, "x = - - 5 ; let y")
	if s, e := lex.Tight(l...); s != "x=--5;let y" || e != api.OK {
		t.Errorf("Tight: %q, %v", s, e)
	}
	l = mustLex(t, "x=--5;\nlet  y // z")
	if s, e := lex.Join(l...); s != "x = - - 5 ; let y" || e != api.OK {
		t.Errorf("Join: %q, %v", s, e)
	}
	for _, l := range [][]api.Token{nil, {}, {{Kind: api.TokLife, At: 7, S: "a"}}} {
		want := ""
		if len(l) == 1 {
			want = "'a"
		}
		if s, e := lex.Join(l...); s != want || e != api.OK {
			t.Errorf("Join(%v): %q, %v", l, s, e)
		}
		if s, e := lex.Tight(l...); s != want || e != api.OK {
			t.Errorf("Tight(%v): %q, %v", l, s, e)
		}
	}
}

// P2.2: which two need a blank, said by hand.
func TestTightPairs(t *testing.T) {
	told := map[string]string{
		"& &": "& &", "& &&": "& &&", "&& &": "&&&", "&& &&": "&&&&", "|| ||": "||||", "- >": "- >", "- >=": "- >=", "- ->": "-->", "-> >": "->>",
		"= =": "= =", "= ==": "= ==", "== =": "===", "! =": "! =", "! ==": "! ==", "! !=": "!!=", "< =": "< =", "> =": "> =", "> >=": ">>=", "> ==": "> ==",
		"/ /": "/ /", "/ =": "/=", "a /": "a/", "/ a": "/a", "a b": "a b", "a B": "a B", "A b": "A b", "a 1": "a 1", "1 a": "1 a", "1 2": "1 2", "0 0": "0 0",
		"1 .": "1.", ". 1": ".1", "a 'b": "a'b", "'a b": "'a b", "'a 'b": "'a'b", "'a 1": "'a 1", "1 'a": "1'a", "& 'a": "&'a", "& mut": "&mut", "fn f": "fn f", "f (": "f(",
		"/ / /": "/ / /", "- - >": "-- >", "x - - 1": "x--1", "Box < Box < i64 > >": "Box<Box<i64>>",
	}
	for s, want := range told {
		if got, e := lex.Tight(mustLex(t, s)...); got != want || e != api.OK {
			t.Errorf("Tight of the tokens of %q: %q, %v; want %q", s, got, e, want)
		}
	}
}

// P2.2, P2.4: of each two tokens, a blank stands just where it must.
func TestTightAllPairs(t *testing.T) {
	all := someTokens()
	for _, a := range all {
		for _, b := range all {
			together, _ := plainLex(plainText(a) + plainText(b))
			want := plainText(a) + plainText(b)
			if !sameTokens(without(together), []api.Token{a, b}) {
				want = plainText(a) + " " + plainText(b)
			}
			if s, e := lex.Tight(a, b); s != want || e != api.OK {
				t.Fatalf("Tight(%v, %v): %q, %v; want %q", a, b, s, e, want)
			}
			mustComeBack(t, []api.Token{a, b})
		}
	}
}

// P2.4: all rows of three of the tokens that meet.
func TestTightTriples(t *testing.T) {
	l := mustLex(t, "& && = == ! != < <= > >= - -> / || 'a a 1 fn A .")
	for _, a := range l {
		for _, b := range l {
			for _, c := range l {
				mustComeBack(t, []api.Token{a, b, c})
			}
		}
	}
}

// mustComeBack holds what Lex tells of Join and of Tight against the tokens.
func mustComeBack(t *testing.T, l []api.Token) {
	t.Helper()
	given := append([]api.Token{}, l...)
	joined, e := lex.Join(l...)
	if e != api.OK {
		t.Fatalf("Join(%v): %v", l, e)
	}
	tight, e := lex.Tight(l...)
	if e != api.OK || len(tight) > len(joined) {
		t.Fatalf("Tight(%v): %q, %v", l, tight, e)
	}
	for _, s := range []string{joined, tight} {
		if got := mustLex(t, s); !sameTokens(without(got), without(l)) {
			t.Fatalf("Lex(%q): %v; want %v", s, got, l)
		}
	}
	if !sameTokens(given, l) {
		t.Fatalf("what was handed in changed: %v; it was %v", l, given)
	}
}

// P2.4: there and back, of tokens and of texts that chance made.
func TestThereAndBack(t *testing.T) {
	chance := rand.New(rand.NewSource(4))
	for range 1000 {
		l := chanceTokens(chance, chance.Intn(30))
		mustComeBack(t, l)
		var texts []string
		for _, x := range l {
			texts = append(texts, plainText(x))
		}
		if s, _ := lex.Join(l...); s != strings.Join(texts, " ") {
			t.Fatalf("Join(%v): %q", l, s)
		}
	}
	for range 1000 {
		s := chanceSource(chance, chance.Intn(30))
		l := mustLex(t, s)
		mustComeBack(t, l)
		if tight, _ := lex.Tight(l...); len(tight) > len(s) {
			t.Fatalf("Tight %q is longer than %q", tight, s)
		}
	}
}

// P2.4: a text of the greatest length comes back from Tight, if not from Join.
func TestTightOfLongest(t *testing.T) {
	for _, s := range []string{strings.Repeat("{", api.MaxSource), strings.Repeat("a ", api.MaxSource/2), strings.Repeat("& ", api.MaxSource/2), strings.Repeat("a;", api.MaxSource/2)} {
		tight, e := lex.Tight(mustLex(t, s)...)
		if e != api.OK || len(tight) > len(s) {
			t.Errorf("Tight of %.4q..: %d bytes, %v", s, len(tight), e)
		}
	}
}

// P2.2: texts at the limit and above it; ErrArg comes ahead of ErrLong.
func TestJoinLong(t *testing.T) {
	open := api.Token{Kind: api.TokSign, S: "{"}
	name := api.Token{Kind: api.TokName, S: "ab"}
	tight := make([]api.Token, api.MaxSource)
	for i := range tight {
		tight[i] = open
	}
	if s, e := lex.Tight(tight...); s != strings.Repeat("{", api.MaxSource) || e != api.OK {
		t.Errorf("Tight at the limit: %d bytes, %v", len(s), e)
	}
	if s, e := lex.Join(tight...); s != "" || e != api.ErrLong {
		t.Errorf("Join above the limit: %d bytes, %v", len(s), e)
	}
	mustNotJoin(t, append(tight, open), api.ErrLong)
	mustNotJoin(t, append(tight, open, api.Token{}), api.ErrArg)

	half := append([]api.Token{}, tight[:api.MaxSource/2]...)
	half[0] = name
	if s, e := lex.Join(half...); s != "ab"+strings.Repeat(" {", api.MaxSource/2-1) || len(s) != api.MaxSource || e != api.OK {
		t.Errorf("Join at the limit: %d bytes, %v", len(s), e)
	}
	half[1] = name
	if s, e := lex.Join(half...); s != "" || e != api.ErrLong {
		t.Errorf("Join of one byte more: %d bytes, %v", len(s), e)
	}
}
