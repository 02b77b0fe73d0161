package print

import "loanword/api"

// fnHead answers the text of a function ahead of its block.
func (s source) fnHead(x api.Node) string {
	lives, rest := x.L[:x.N], x.L[x.N:]
	params, answer := rest[:len(rest)-2], rest[len(rest)-2]
	return "fn " + x.S + s.lives(lives) + "(" + list(", ", params, s.named) + ") -> " + s.typeText(answer) + " "
}

func (s source) lives(l []int) string {
	if len(l) == 0 {
		return ""
	}
	return "<" + list(", ", l, s.life) + ">"
}

// life answers the text of a lifetime, with the bounds that it has.
func (s source) life(n int) string {
	x := s[n]
	if len(x.L) == 0 {
		return "'" + x.S
	}
	return "'" + x.S + ": " + list(" + ", x.L, s.life)
}

// named answers a name, and behind it the type or the expression that has it.
func (s source) named(n int) string {
	x := s[n]
	if x.Kind == api.NInit {
		return x.S + ": " + s.whole(x.L[0])
	}
	return x.S + ": " + s.typeText(x.L[0])
}

func (s source) typeText(n int) string {
	x := s[n]
	switch x.Kind {
	case api.NTyInt:
		return "i64"
	case api.NTyBool:
		return "bool"
	case api.NTyBox:
		return "Box<" + s.typeText(x.L[0]) + ">"
	case api.NTyRef:
		return referring(x.S, x.N == 1, s.typeText(x.L[0]))
	}
	return x.S
}
