package print

import (
	"strconv"
	"strings"

	"loanword/api"
)

// The levels by which expressions hold together; those of signs between two are in signLevel.
const (
	lowest   = 1
	compares = 3
	prefixed = 6
	dotted   = 7
	single   = 8
)

// source is the nodes of a tree that may be.
type source []api.Node

func levelOf(x api.Node) int {
	switch x.Kind {
	case api.NBin:
		return signLevel(x.S)
	case api.NNeg, api.NNot, api.NDeref, api.NRef:
		return prefixed
	case api.NDot:
		return dotted
	}
	return single
}

func signLevel(sign string) int {
	switch sign {
	case "||":
		return 1
	case "&&":
		return 2
	case "+", "-":
		return 4
	case "*", "/", "%":
		return 5
	}
	return compares
}

// whole answers an expression's text where anything may stand.
func (s source) whole(n int) string { return s.leveled(n, lowest) }

// leveled answers an expression's text where something of this level or more must stand.
func (s source) leveled(n, least int) string {
	if levelOf(s[n]) < least {
		return "(" + s.bare(n) + ")"
	}
	return s.bare(n)
}

// bare answers an expression's text without brackets around it.
func (s source) bare(n int) string {
	x := s[n]
	switch x.Kind {
	case api.NInt:
		return strconv.FormatInt(x.N, 10)
	case api.NBool:
		return strconv.FormatBool(x.N == 1)
	case api.NVar:
		return x.S
	case api.NDot:
		return s.leveled(x.L[0], dotted) + "." + x.S
	case api.NDeref:
		return "*" + s.leveled(x.L[0], prefixed)
	case api.NNeg:
		return "-" + s.leveled(x.L[0], prefixed)
	case api.NNot:
		return "!" + s.leveled(x.L[0], prefixed)
	case api.NRef:
		return referring("", x.N == 1, s.leveled(x.L[0], prefixed))
	case api.NBin:
		return s.binary(x)
	case api.NCall:
		return x.S + "(" + list(", ", x.L, s.whole) + ")"
	case api.NMake:
		return x.S + " { " + list(", ", x.L, s.named) + " }"
	case api.NBox:
		return "box(" + s.whole(x.L[0]) + ")"
	}
	return "read()"
}

func (s source) binary(x api.Node) string {
	level := levelOf(x)
	left := level
	// What compares has nothing that compares beside it.
	if level == compares {
		left = level + 1
	}
	return s.leveled(x.L[0], left) + " " + x.S + " " + s.leveled(x.L[1], level+1)
}

// referring answers the text of a reference, a type's or an expression's.
func referring(life string, mutable bool, what string) string {
	text := "&"
	if life != "" {
		text += "'" + life + " "
	}
	if mutable {
		text += "mut "
	}
	// Two & beside each other would be one sign.
	if text == "&" && strings.HasPrefix(what, "&") {
		text += " "
	}
	return text + what
}

// list answers the texts of several nodes, with something between each two.
func list(between string, l []int, one func(int) string) string {
	texts := make([]string, len(l))
	for i, n := range l {
		texts[i] = one(n)
	}
	return strings.Join(texts, between)
}
