package lex_test

import (
	"math/big"
	"math/rand"
	"regexp"
	"strings"
	"testing"

	"loanword/api"
	"loanword/lex"
)

// What the chapter's table says, as patterns: what the package is held against.
var (
	passPattern = regexp.MustCompile(`\A(?:[\t\n\r ]|//[^\n]*)+`)
	rowPattern  = regexp.MustCompile(`\A[A-Za-z0-9_]+`)
	lifePattern = regexp.MustCompile(`\A'([A-Za-z0-9_]+)`)
	namePattern = regexp.MustCompile(`\A[a-z][a-z0-9_]{0,31}\z`)
	typePattern = regexp.MustCompile(`\A[A-Z][A-Za-z0-9_]{0,31}\z`)
	intPattern  = regexp.MustCompile(`\A(?:0|[1-9][0-9]*)\z`)
	// The first one that fits is taken: the longer ones stand first.
	signPattern = regexp.MustCompile(`\A(?:->|==|!=|<=|>=|&&|\|\||[{}()<>,;:.&*!=+\-/%])`)
)

var words = strings.Fields("fn struct let if else loop while break continue return true false mut print read box i64 bool Box")

var signs = strings.Fields("{ } ( ) < > , ; : . & * ! = + - / % -> == != <= >= && ||")

func isWord(row string) bool {
	for _, w := range words {
		if w == row {
			return true
		}
	}
	return false
}

// plainRow is the token that a whole row is, by the chapter's table.
func plainRow(row string) (api.Token, bool) {
	switch {
	case isWord(row):
		return api.Token{Kind: api.TokWord, S: row}, true
	case namePattern.MatchString(row):
		return api.Token{Kind: api.TokName, S: row}, true
	case typePattern.MatchString(row):
		return api.Token{Kind: api.TokType, S: row}, true
	case intPattern.MatchString(row):
		n, _ := new(big.Int).SetString(row, 10)
		if n.IsInt64() {
			return api.Token{Kind: api.TokInt, N: n.Int64()}, true
		}
	}
	return api.Token{}, false
}

// plainToken is the first token of a text, and its length.
func plainToken(s string) (api.Token, int, bool) {
	if row := rowPattern.FindString(s); row != "" {
		t, ok := plainRow(row)
		return t, len(row), ok
	}
	if m := lifePattern.FindStringSubmatch(s); m != nil {
		t, ok := plainRow(m[1])
		return api.Token{Kind: api.TokLife, S: m[1]}, len(m[0]), ok && t.Kind == api.TokName
	}
	sign := signPattern.FindString(s)
	return api.Token{Kind: api.TokSign, S: sign}, len(sign), sign != ""
}

// plainLex is the tokens of a text, and whether it is lexed: without a word of where it is not.
func plainLex(s string) ([]api.Token, bool) {
	var l []api.Token
	at := 0
	for {
		at += len(passPattern.FindString(s[at:]))
		if at == len(s) {
			return l, true
		}
		t, n, ok := plainToken(s[at:])
		if !ok {
			return nil, false
		}
		t.At = at
		l = append(l, t)
		at += n
	}
}

// allTexts are all texts of up to so many of these bytes.
func allTexts(bytes string, most int) []string {
	l := []string{""}
	last := l
	for range most {
		var longer []string
		for _, s := range last {
			for i := range len(bytes) {
				longer = append(longer, s+bytes[i:i+1])
			}
		}
		l = append(l, longer...)
		last = longer
	}
	return l
}

// someTokens are tokens of all kinds and edges.
func someTokens() []api.Token {
	var l []api.Token
	for _, w := range words {
		l = append(l, api.Token{Kind: api.TokWord, S: w})
	}
	for _, s := range signs {
		l = append(l, api.Token{Kind: api.TokSign, S: s})
	}
	for _, s := range []string{"a", "z9_", "fnx", "i6", "i640", "boxes", "x__", strings.Repeat("n", 32)} {
		l = append(l, api.Token{Kind: api.TokName, S: s}, api.Token{Kind: api.TokLife, S: s})
	}
	for _, s := range []string{"A", "Z9_a", "Bo", "Boxx", "BOX", "Fn", strings.Repeat("N", 32)} {
		l = append(l, api.Token{Kind: api.TokType, S: s})
	}
	for _, n := range []int64{0, 1, 9, 10, 100, 1<<63 - 2, 1<<63 - 1} {
		l = append(l, api.Token{Kind: api.TokInt, N: n})
	}
	return l
}

// plainText is a token's text.
func plainText(t api.Token) string {
	switch t.Kind {
	case api.TokInt:
		return big.NewInt(t.N).String()
	case api.TokLife:
		return "'" + t.S
	}
	return t.S
}

// chanceTokens is a list of so many tokens.
func chanceTokens(chance *rand.Rand, n int) []api.Token {
	from := someTokens()
	var l []api.Token
	for range n {
		t := from[chance.Intn(len(from))]
		t.At = chance.Intn(3) * 1000
		l = append(l, t)
	}
	return l
}

// chanceSource is a text that is lexed: tokens with blanks and comments, or, where it is lexed so, nothing between them.
func chanceSource(chance *rand.Rand, n int) string {
	between := []string{" ", "  ", "\t", "\r\n", "\n", "//\n", " // x's \xff @\r\n", "\n//fn/|\n\n"}
	var s strings.Builder
	last := ""
	for _, t := range chanceTokens(chance, n) {
		text := plainText(t)
		l, lexed := plainLex(last + text)
		if !lexed || len(l) != 2 || l[1].At != len(last) || chance.Intn(2) == 0 {
			s.WriteString(" ")
			s.WriteString(between[chance.Intn(len(between))])
		}
		s.WriteString(text)
		last = text
	}
	return s.String()
}

func sameTokens(a, b []api.Token) bool {
	if len(a) != len(b) {
		return false
	}
	for i := range a {
		if a[i] != b[i] {
			return false
		}
	}
	return true
}

// without answers the tokens with all places 0.
func without(l []api.Token) []api.Token {
	var x []api.Token
	for _, t := range l {
		t.At = 0
		x = append(x, t)
	}
	return x
}

func mustLex(t *testing.T, s string) []api.Token {
	t.Helper()
	l, at, e := lex.Lex(s)
	if at != 0 || e != api.OK {
		t.Fatalf("Lex(%q): at %d, %v", s, at, e)
	}
	return l
}

// mustTell asks for just these tokens, of Lex and of Each.
func mustTell(t *testing.T, s string, want []api.Token) {
	t.Helper()
	if l := mustLex(t, s); !sameTokens(l, want) {
		t.Fatalf("Lex(%q): %v; want %v", s, l, want)
	}
	if l := each(s); !sameTokens(l, want) {
		t.Fatalf("Each(%q): %v; want %v", s, l, want)
	}
}

// mustStop asks for ErrLex at that place, and no tokens.
func mustStop(t *testing.T, s string, want int) {
	t.Helper()
	if l, at, e := lex.Lex(s); len(l) != 0 || at != want || e != api.ErrLex {
		t.Fatalf("Lex(%q): %v, at %d, %v; want ErrLex at %d", s, l, at, e, want)
	}
	if l := each(s); len(l) != 0 {
		t.Fatalf("Each(%q): %v; want none", s, l)
	}
}

func each(s string) []api.Token {
	var l []api.Token
	for t := range lex.Each(s) {
		l = append(l, t)
	}
	return l
}
