package lex_test

import (
	"math"
	"math/rand"
	"strings"
	"testing"

	"loanword/api"
	"loanword/lex"
)

func mustStand(t *testing.T, s string, at, line, column int) {
	t.Helper()
	if l, c, e := lex.Line(s, at); l != line || c != column || e != api.OK {
		t.Fatalf("Line(%q, %d): %d, %d, %v; want %d, %d", s, at, l, c, e, line, column)
	}
}

func mustNotStand(t *testing.T, s string, at int, want api.Errno) {
	t.Helper()
	if l, c, e := lex.Line(s, at); l != 0 || c != 0 || e != want {
		t.Fatalf("Line of %d bytes at %d: %d, %d, %v; want %v", len(s), at, l, c, e, want)
	}
}

// P2.3: the examples of the chapter.
func TestLineExamples(t *testing.T) {
	mustStand(t, "a\nbc", 3, 2, 2)
	mustStand(t, "a\nbc", 4, 2, 3)
	mustStand(t, "", 0, 1, 1)
	mustNotStand(t, "", 1, api.ErrArg)
}

// P2.3: a byte 10 stands in the line that it ends; others begin none.
func TestLineEdges(t *testing.T) {
	mustStand(t, "a\nbc", 1, 1, 2)
	mustStand(t, "a\nbc", 2, 2, 1)
	mustStand(t, "\n\n", 0, 1, 1)
	mustStand(t, "\n\n", 1, 2, 1)
	mustStand(t, "\n\n", 2, 3, 1)
	mustStand(t, "a\r\tb", 3, 1, 4)
	mustStand(t, "ä\xff\x00@", 4, 1, 5)
	for _, at := range []int{-1, 5, math.MinInt, math.MaxInt} {
		mustNotStand(t, "a\nbc", at, api.ErrArg)
	}
}

// P2.3: the limit, and what comes first.
func TestLinesLong(t *testing.T) {
	s := strings.Repeat("\n", api.MaxSource)
	mustStand(t, s, api.MaxSource, api.MaxSource+1, 1)
	mustStand(t, strings.Repeat("a", api.MaxSource), api.MaxSource, 1, api.MaxSource+1)
	mustNotStand(t, s, api.MaxSource+1, api.ErrArg)
	for _, at := range []int{0, -1, api.MaxSource + 1, api.MaxSource + 2} {
		mustNotStand(t, s+"a", at, api.ErrLong)
	}
	if l, e := lex.Lines(s); len(l) != api.MaxSource+1 || e != api.OK {
		t.Errorf("Lines of MaxSource bytes 10: %d, %v", len(l), e)
	}
	if l, e := lex.Lines(s + "\n"); len(l) != 0 || e != api.ErrLong {
		t.Errorf("Lines of one byte more: %d, %v", len(l), e)
	}
}

// P2.3: Lines.
func TestLines(t *testing.T) {
	for s, want := range map[string][]string{
		"": {""}, "\n": {"", ""}, "a": {"a"}, "a\n": {"a", ""}, "\na": {"", "a"}, "a\n\nb": {"a", "", "b"}, "a\r\nb": {"a\r", "b"}, "//@\n\xff": {"//@", "\xff"},
	} {
		l, e := lex.Lines(s)
		if len(l) != len(want) || e != api.OK {
			t.Fatalf("Lines(%q): %q, %v", s, l, e)
		}
		for i := range l {
			if l[i] != want[i] {
				t.Fatalf("Lines(%q): %q; want %q", s, l, want)
			}
		}
	}
}

// P2.6: Lines put together are the text, and each byte stands where Line says.
func TestLinesTogether(t *testing.T) {
	texts := allTexts("a\n@\r", 5)
	chance := rand.New(rand.NewSource(26))
	for range 200 {
		texts = append(texts, chanceSource(chance, 20))
	}
	for _, s := range texts {
		lines, e := lex.Lines(s)
		if e != api.OK || strings.Join(lines, "\n") != s || len(lines) != 1+strings.Count(s, "\n") {
			t.Fatalf("Lines(%q): %q, %v", s, lines, e)
		}
		for at := range len(s) + 1 {
			line, column, e := lex.Line(s, at)
			if e != api.OK || line < 1 || line > len(lines) || column < 1 || column > len(lines[line-1])+1 {
				t.Fatalf("Line(%q, %d): %d, %d, %v", s, at, line, column, e)
			}
			ahead := strings.Join(lines[:line-1], "\n")
			if line > 1 {
				ahead += "\n"
			}
			if len(ahead)+column-1 != at {
				t.Fatalf("Line(%q, %d): %d, %d stands elsewhere", s, at, line, column)
			}
			if at < len(s) && s[at] != '\n' && lines[line-1][column-1] != s[at] {
				t.Fatalf("Line(%q, %d): %d, %d is another byte", s, at, line, column)
			}
		}
	}
}
