package lex

import (
	"math"
	"strings"

	"loanword/api"
)

// class says what a byte may be a part of.
type class uint8

const (
	other class = iota
	blank
	letter
	great
	digit
	score
	quote
)

func classOf(c byte) class {
	switch {
	case c == 9 || c == 10 || c == 13 || c == 32:
		return blank
	case 'a' <= c && c <= 'z':
		return letter
	case 'A' <= c && c <= 'Z':
		return great
	case '0' <= c && c <= '9':
		return digit
	case c == '_':
		return score
	case c == '\'':
		return quote
	}
	return other
}

func inName(c byte) bool {
	k := classOf(c)
	return k == letter || k == digit || k == score
}

func inRow(c byte) bool { return inName(c) || classOf(c) == great }

func isWord(row string) bool {
	switch row {
	case "fn", "struct", "let", "if", "else", "loop", "while", "break", "continue", "return",
		"true", "false", "mut", "print", "read", "box", "i64", "bool", "Box":
		return true
	}
	return false
}

// read answers the token that left begins with, without its place, and its length; if there is none, a token without a kind, and how far left goes on.
func read(left string) (api.Token, int) {
	if left == "" {
		return api.Token{}, 0
	}
	switch classOf(left[0]) {
	case letter:
		return readRow(left, api.TokName, inName)
	case great:
		return readRow(left, api.TokType, inRow)
	case digit:
		return readInt(left)
	case quote:
		return readLife(left)
	}
	return readSign(left)
}

// readRow reads a row all bytes of which may be there: a word, or else a token of that kind.
func readRow(left string, kind api.TokenKind, may func(byte) bool) (api.Token, int) {
	n := 0
	for n < len(left) && n < api.MaxName && may(left[n]) {
		n++
	}
	if n < len(left) && inRow(left[n]) {
		return api.Token{}, n
	}
	// The token outlives the call: it keeps its few bytes, not the whole text.
	row := strings.Clone(left[:n])
	if isWord(row) {
		kind = api.TokWord
	}
	return api.Token{Kind: kind, S: row}, n
}

func readLife(left string) (api.Token, int) {
	row := left[1:]
	if row == "" || classOf(row[0]) != letter {
		return api.Token{}, 1
	}
	t, n := readRow(row, api.TokName, inName)
	if t.Kind != api.TokName {
		// Up to its end a word goes on all the same: it may be the beginning of a longer name.
		return api.Token{}, 1 + n
	}
	t.Kind = api.TokLife
	return t, 1 + n
}

func readInt(left string) (api.Token, int) {
	var v int64
	n := 0
	for n < len(left) && inRow(left[n]) {
		zeroAhead := n > 0 && v == 0
		longer, ok := withDigit(v, left[n])
		if zeroAhead || !ok {
			return api.Token{}, n
		}
		v, n = longer, n+1
	}
	return api.Token{Kind: api.TokInt, N: v}, n
}

// withDigit answers v with one more digit behind it, if c is one and the number does not grow too great.
func withDigit(v int64, c byte) (int64, bool) {
	if classOf(c) != digit {
		return 0, false
	}
	d := int64(c - '0')
	if v > (math.MaxInt64-d)/10 {
		return 0, false
	}
	return v*10 + d, true
}

func readSign(left string) (api.Token, int) {
	if sign := longestSign(left); sign != "" {
		return api.Token{Kind: api.TokSign, S: sign}, len(sign)
	}
	if left[0] == '|' {
		// The one byte that is no sign, but begins one.
		return api.Token{}, 1
	}
	return api.Token{}, 0
}

// longestSign answers the longest sign that left begins with, or none.
func longestSign(left string) string {
	// The longer ones come first: so the first one that fits is the longest.
	lists := [2][]string{
		{"->", "==", "!=", "<=", ">=", "&&", "||"},
		{"{", "}", "(", ")", "<", ">", ",", ";", ":", ".", "&", "*", "!", "=", "+", "-", "/", "%"},
	}
	found := ""
search:
	for _, list := range lists {
		for _, sign := range list {
			if strings.HasPrefix(left, sign) {
				found = sign
				break search
			}
		}
	}
	return found
}
