package lex_test

import (
	"math/rand"
	"strings"
	"testing"

	"loanword/api"
	"loanword/lex"
)

// P2.1: the examples of the chapter.
func TestLexExamples(t *testing.T) {
	mustStop(t, "let x1 = 007;", 10)
	mustTell(t, "&&mut'a", []api.Token{{Kind: api.TokSign, S: "&&"}, {Kind: api.TokWord, At: 2, S: "mut"}, {Kind: api.TokLife, At: 5, S: "a"}})
	mustTell(t, "a//b\n->c", []api.Token{{Kind: api.TokName, S: "a"}, {Kind: api.TokSign, At: 5, S: "->"}, {Kind: api.TokName, At: 7, S: "c"}})
	mustStop(t, "x|y", 2)
	mustStop(t, "x|", 2)
	mustStop(t, "'fn ", 3)
	mustStop(t, "'", 1)
	mustStop(t, "xY", 1)
	mustStop(t, "_x", 0)
	mustStop(t, "5x", 1)
	mustStop(t, "@", 0)
	mustStop(t, "9223372036854775808", 18)
	mustStop(t, strings.Repeat("n", 33), 32)
	mustTell(t, strings.Repeat("n", 32), []api.Token{{Kind: api.TokName, S: strings.Repeat("n", 32)}})
}

// P2.1: each token alone, and where it stands.
func TestLexEachToken(t *testing.T) {
	for _, x := range someTokens() {
		mustTell(t, plainText(x), []api.Token{x})
		x.At = 9
		for _, behind := range []string{"", " ", "\n", "\t", "\r", "//", "// _@\xff", " //\n"} {
			if strings.HasPrefix(behind, "/") && x.S == "/" {
				continue
			}
			mustTell(t, "\t\n\r //'@\n"+plainText(x)+behind, []api.Token{x})
		}
	}
}

// P2.1: texts without tokens.
func TestLexNothing(t *testing.T) {
	for _, s := range []string{"", " ", "\t\n\r ", "//", "///", "// @", "//\n", "//\x00\xff\r_|\n//'", "\n\n//"} {
		mustTell(t, s, nil)
	}
	mustTell(t, "/ /", []api.Token{{Kind: api.TokSign, S: "/"}, {Kind: api.TokSign, At: 2, S: "/"}})
	mustTell(t, "a/", []api.Token{{Kind: api.TokName, S: "a"}, {Kind: api.TokSign, At: 1, S: "/"}})
	mustTell(t, "/*", []api.Token{{Kind: api.TokSign, S: "/"}, {Kind: api.TokSign, At: 1, S: "*"}})
}

// P2.1: numbers.
func TestLexNumbers(t *testing.T) {
	for s, n := range map[string]int64{"0": 0, "7": 7, "10": 10, "1000000000000000000": 1e18, "9223372036854775799": 1<<63 - 9, "9223372036854775807": 1<<63 - 1} {
		mustTell(t, s, []api.Token{{Kind: api.TokInt, N: n}})
	}
	stops := map[string]int{
		"00": 1, "01": 1, "0x": 1, "0_": 1, "0A": 1, "1_": 1, "12a3": 2, "12A": 2,
		"9223372036854775808": 18, "9223372036854775810": 18, "9223372036854775900": 18, "9999999999999999999": 18,
		"10000000000000000000": 19, "92233720368547758070": 19, "18446744073709551616": 19, "1" + strings.Repeat("0", 200): 19,
		"9223372036854775807x": 19, "9223372036854775807_": 19,
	}
	for s, at := range stops {
		mustStop(t, s, at)
		mustStop(t, "x="+s+";", at+2)
	}
}

// P2.1: rows that are too long, or have a byte too much.
func TestLexRows(t *testing.T) {
	n32, g32 := strings.Repeat("n", 32), strings.Repeat("N", 32)
	stops := map[string]int{
		n32 + "n": 32, n32 + "N": 32, n32 + "_": 32, n32 + "0": 32, n32 + n32 + "@": 32,
		g32 + "n": 32, g32 + "N": 32, g32 + "_": 32, g32 + "0": 32,
		"'" + n32 + "n": 33, "'" + n32 + "N": 33,
		"fnX": 2, "boX": 2, "aBox": 1, "x_Y": 2, "x1Y": 2, "_": 0, "__": 0, "_9": 0, "_Y": 0,
		"'A": 1, "'Box": 1, "'0": 1, "'_": 1, "''": 1, "' a": 1, "'\na": 1, "'//": 1, "'@": 1, "'aB": 2,
		"'fn": 3, "'box;": 4, "'i64": 4, "'i64'a": 4, "'fnX": 3, "'while//": 6,
	}
	for _, w := range words {
		if w != "Box" {
			stops["'"+w] = len(w) + 1
		}
	}
	for s, at := range stops {
		mustStop(t, s, at)
		mustStop(t, "{ "+s, at+2)
	}
	mustTell(t, "'fnx", []api.Token{{Kind: api.TokLife, S: "fnx"}})
	mustTell(t, "Boxx", []api.Token{{Kind: api.TokType, S: "Boxx"}})
	mustTell(t, "'a'b", []api.Token{{Kind: api.TokLife, S: "a"}, {Kind: api.TokLife, At: 2, S: "b"}})
}

// P2.1: each byte alone, in a comment, and behind a name.
func TestLexBytes(t *testing.T) {
	for c := range 256 {
		s := string([]byte{byte(c)})
		want, lexed := plainLex(s)
		switch {
		case lexed:
			mustTell(t, s, want)
		case s == "|" || s == "'":
			mustStop(t, s, 1)
			mustStop(t, "a "+s, 3)
			mustStop(t, s+"@", 1)
		default:
			mustStop(t, s, 0)
			mustStop(t, "a "+s, 2)
			mustStop(t, s+"a", 0)
		}
		mustTell(t, "//"+s+"\n", nil)
	}
	for _, s := range []string{"ä", "x = λ", "“", "\xc3", "\uFEFFfn"} {
		mustStop(t, s, strings.IndexFunc(s, func(r rune) bool { return r > 127 }))
	}
}

// P2.1: the longest sign is taken.
func TestLexSigns(t *testing.T) {
	told := map[string]string{
		"===": "== =", "====": "== ==", "<=>": "<= >", "<==": "<= =", "=>=": "= >=", "!==": "!= =", "!!=": "! !=",
		"&&&": "&& &", "&&&&": "&& &&", "||||": "|| ||", "-->": "- ->", "->>": "-> >", "->=": "-> =", "=<": "= <", ">>=": "> >=",
		"+-*%": "+ - * %", "{}()": "{ } ( )", ",;:.": ", ; : .", "/=": "/ =", "*/": "* /", "--5": "- - 5", "'a&'b": "'a & 'b",
	}
	for s, want := range told {
		got, _ := plainLex(want)
		if l := mustLex(t, s); !sameTokens(without(l), without(got)) {
			t.Errorf("Lex(%q): %v; want %s", s, l, want)
		}
	}
	mustStop(t, "|||", 3)
	mustStop(t, "|| |", 4)
	mustStop(t, "| |", 1)
}

// P2.1: the length of a text comes ahead of what it is.
func TestLexLong(t *testing.T) {
	signs := strings.Repeat("{", api.MaxSource)
	if l := mustLex(t, signs); len(l) != api.MaxSource || l[api.MaxSource-1].At != api.MaxSource-1 {
		t.Errorf("Lex of MaxSource signs: %d tokens", len(l))
	}
	mustTell(t, strings.Repeat("\n", api.MaxSource), nil)
	mustTell(t, "//"+strings.Repeat("@", api.MaxSource-2), nil)
	mustStop(t, strings.Repeat(" ", api.MaxSource-1)+"@", api.MaxSource-1)
	mustStop(t, strings.Repeat(" ", api.MaxSource-1)+"|", api.MaxSource)
	for _, s := range []string{signs + "{", signs + "@", "@" + signs, strings.Repeat(" ", 1<<20)} {
		if l, at, e := lex.Lex(s); len(l) != 0 || at != 0 || e != api.ErrLong {
			t.Errorf("Lex of %d bytes: %d tokens, at %d, %v", len(s), len(l), at, e)
		}
		if l := each(s); len(l) != 0 {
			t.Errorf("Each of %d bytes: %d tokens", len(s), len(l))
		}
	}
}

// P2.1: whoever ranges over Each may stop, and begin anew.
func TestEachStops(t *testing.T) {
	seq := lex.Each("a b c")
	for range 2 {
		var l []string
		for x := range seq {
			l = append(l, x.S)
			if x.S == "b" {
				break
			}
		}
		if strings.Join(l, "") != "ab" {
			t.Errorf("Each, left at b, told %v", l)
		}
	}
	if l := each("a b c |"); len(l) != 0 {
		t.Errorf("Each of a text that is not lexed told %v", l)
	}
}

// P2.1: what Lex answers is nobody else's.
func TestLexOwn(t *testing.T) {
	a, b := mustLex(t, "a b"), mustLex(t, "a b")
	a[0], a[1] = api.Token{}, api.Token{}
	if b[0].S != "a" || b[1].S != "b" {
		t.Errorf("tokens changed with another answer's: %v", b)
	}
}

// goingOn are the beginnings of all lexed texts of these bytes that are at most one byte longer than most.
func goingOn(bytes string, most int) map[string]bool {
	begins := map[string]bool{"": true}
	for _, s := range allTexts(bytes, most+1) {
		if _, lexed := plainLex(s); !lexed {
			continue
		}
		for n := len(s); n >= 0 && !begins[s[:n]]; n-- {
			begins[s[:n]] = true
		}
	}
	return begins
}

// P2.1, P2.5: all texts of few bytes. One byte more is enough to end what goes on: |, ' and a lifetime's word lack no more.
func TestLexAllShort(t *testing.T) {
	for bytes, most := range map[string]int{"xifnY0'_|/\n @&": 3, "if'|/\n": 5, "->=&!</": 5, "09aA_": 5, "{ '\tb*\r": 4} {
		begins := goingOn(bytes, most)
		for _, s := range allTexts(bytes, most) {
			if want, lexed := plainLex(s); lexed {
				mustTell(t, s, want)
				continue
			}
			n := len(s)
			for !begins[s[:n]] {
				n--
			}
			mustStop(t, s, n)
		}
	}
}

// P2.1: texts that chance made, held against the chapter's table.
func TestLexChance(t *testing.T) {
	chance := rand.New(rand.NewSource(2))
	for range 3000 {
		s := chanceSource(chance, chance.Intn(40))
		want, lexed := plainLex(s)
		if !lexed {
			t.Fatalf("the test's own text %q is not lexed", s)
		}
		mustTell(t, s, want)
	}
}

// P2.5: where Lex stops, what stands ahead is the beginning of a lexed text, with one byte more it is not.
func TestStopsThere(t *testing.T) {
	chance := rand.New(rand.NewSource(5))
	behind := allTexts("x|'Y0/\n ;&", 2)
	for range 2000 {
		s := []byte(chanceSource(chance, 1+chance.Intn(8)))
		for range 1 + chance.Intn(2) {
			s[chance.Intn(len(s))] = "@|'_Y0x\x80"[chance.Intn(8)]
		}
		_, at, e := lex.Lex(string(s))
		if e == api.OK {
			continue
		}
		if !anyLexed(string(s[:at]), behind) {
			t.Fatalf("Lex(%q) stops at %d, but what stands ahead is no beginning", s, at)
		}
		if at < len(s) && anyLexed(string(s[:at+1]), behind) {
			t.Fatalf("Lex(%q) stops at %d, but it goes on", s, at)
		}
	}
}

func anyLexed(s string, behind []string) bool {
	for _, x := range behind {
		if _, lexed := plainLex(s + x); lexed {
			return true
		}
	}
	return false
}

// P2.5: blanks and comments between tokens change nothing but places.
func TestBlanksBetween(t *testing.T) {
	chance := rand.New(rand.NewSource(6))
	for range 1000 {
		s := chanceSource(chance, chance.Intn(20))
		l := mustLex(t, s)
		for _, blanks := range []string{" ", "\t", "\r", "\n", " // @\xff\n", "\n//\n//x\n"} {
			var more strings.Builder
			last := 0
			for _, x := range l {
				more.WriteString(s[last:x.At])
				more.WriteString(blanks)
				last = x.At
			}
			more.WriteString(s[last:])
			got := mustLex(t, more.String())
			if !sameTokens(without(got), without(l)) {
				t.Fatalf("%q with %q between tokens: %v; want %v", s, blanks, got, l)
			}
		}
	}
}
