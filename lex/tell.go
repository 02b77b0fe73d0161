package lex

import (
	"strconv"
	"strings"

	"loanword/api"
)

// May tells whether t may be.
func May(t api.Token) bool {
	if t.Kind == api.NoToken || t.At < 0 {
		return false
	}
	// A token may be just if what would be its text is read as it.
	s := textOf(t)
	x, n := read(s)
	x.At = t.At
	return n == len(s) && x == t
}

// Text answers t's text.
func Text(t api.Token) (string, api.Errno) {
	if !May(t) {
		return "", api.ErrArg
	}
	return strings.Clone(textOf(t)), api.OK
}

// Join answers the texts of l with a blank between each two.
func Join(l ...api.Token) (string, api.Errno) {
	return together(l, func(a, b api.Token) bool { return true })
}

// Tight answers the texts of l with a blank only where without it others would come out.
func Tight(l ...api.Token) (string, api.Errno) {
	return together(l, clash)
}

// together answers the texts of l, a blank between two where the call asks for one.
func together(l []api.Token, wantsBlank func(a, b api.Token) bool) (string, api.Errno) {
	for _, t := range l {
		if !May(t) {
			return "", api.ErrArg
		}
	}
	var s strings.Builder
	for i, t := range l {
		if i > 0 && wantsBlank(l[i-1], t) {
			s.WriteByte(' ')
		}
		s.WriteString(textOf(t))
		// Told at once, so that a long list does not fill the memory first.
		if s.Len() > api.MaxSource {
			return "", api.ErrLong
		}
	}
	return s.String(), api.OK
}

// clash tells whether the texts of a and b, put together, are not lexed as just these two.
func clash(a, b api.Token) bool {
	l, _, _ := Lex(textOf(a) + textOf(b))
	return len(l) != 2 || !same(l[0], a) || !same(l[1], b)
}

// same tells whether a and b are the same but for their places.
func same(a, b api.Token) bool {
	a.At, b.At = 0, 0
	return a == b
}

// textOf answers what t's text is, if t may be.
func textOf(t api.Token) string {
	switch t.Kind {
	case api.TokInt:
		return strconv.FormatInt(t.N, 10)
	case api.TokLife:
		return "'" + t.S
	}
	return t.S
}
