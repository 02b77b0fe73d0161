package print

import (
	"strings"

	"loanword/api"
)

// step is how much further in a block's statements stand than the block.
const step = "    "

// linesOf answers the lines of a tree whose root has lines.
func linesOf(t api.Tree) []string {
	var lines []string
	in := 0
	source(t.Nodes).tell(0, func(text string) {
		// A line that begins so ends a block, and one that ends so begins one: no others do.
		if strings.HasPrefix(text, "}") {
			in--
		}
		lines = append(lines, strings.Repeat(step, in)+text)
		if strings.HasSuffix(text, "{") {
			in++
		}
	})
	return lines
}

// tell tells the lines of a file, an item or a statement, one by one.
func (s source) tell(n int, line func(string)) {
	x := s[n]
	switch x.Kind {
	case api.NFile:
		s.tellEach(x.L, line)
	case api.NStruct:
		line("struct " + x.S + " { " + list(", ", x.L, s.named) + " }")
	case api.NFn:
		s.block(s.fnHead(x), x.L[len(x.L)-1], line)
	case api.NBlock:
		s.block("", n, line)
	case api.NIf:
		s.ifElse("if ", x, line)
	case api.NWhile:
		s.block("while "+s.whole(x.L[0])+" ", x.L[1], line)
	case api.NLoop:
		s.block("loop ", x.L[0], line)
	default:
		line(s.short(x) + ";")
	}
}

func (s source) tellEach(l []int, line func(string)) {
	for _, n := range l {
		s.tell(n, line)
	}
}

// block tells a block, behind what stands ahead of it in its first line.
func (s source) block(head string, n int, line func(string)) {
	s.openBlock(head, n, line)
	line("}")
}

// openBlock leaves the end of the block to whoever has more to say in that line.
func (s source) openBlock(head string, n int, line func(string)) {
	line(head + "{")
	s.tellEach(s[n].L, line)
}

func (s source) ifElse(head string, x api.Node, line func(string)) {
	s.openBlock(head+s.whole(x.L[0])+" ", x.L[1], line)
	if x.N == 0 {
		line("}")
		return
	}
	other := s[x.L[2]]
	if other.Kind == api.NIf {
		s.ifElse("} else if ", other, line)
		return
	}
	s.block("} else ", x.L[2], line)
}

// short answers the text of a statement without a block, but for its semicolon.
func (s source) short(x api.Node) string {
	switch x.Kind {
	case api.NLet:
		return s.let(x)
	case api.NAssign:
		return s.whole(x.L[0]) + " = " + s.whole(x.L[1])
	case api.NBreak:
		return "break"
	case api.NContinue:
		return "continue"
	case api.NReturn:
		return "return " + s.whole(x.L[0])
	case api.NPrint:
		return "print(" + s.whole(x.L[0]) + ")"
	}
	return s.whole(x.L[0])
}

func (s source) let(x api.Node) string {
	text := "let " + x.S
	if x.N != 2 {
		text += ": " + s.typeText(x.L[0])
	}
	if x.N != 1 {
		text += " = " + s.whole(x.L[len(x.L)-1])
	}
	return text
}
