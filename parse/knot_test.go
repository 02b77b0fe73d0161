package parse_test

import (
	"math/rand"
	"strings"

	"loanword/api"
)

// knot is a node with its children in it, and how many brackets are written around it beside those that must be.
type knot struct {
	n        api.Node
	kids     []*knot
	brackets int
}

func k(kind api.NodeKind, s string, n int64, kids ...*knot) *knot {
	return &knot{n: api.Node{Kind: kind, S: s, N: n}, kids: kids}
}

// flat is a knot as a tree.
func flat(x *knot) api.Tree {
	var t api.Tree
	lay(&t, x)
	return t
}

func lay(t *api.Tree, x *knot) {
	at := len(t.Nodes)
	x.n.L = nil
	t.Nodes = append(t.Nodes, x.n)
	for _, kid := range x.kids {
		t.Nodes[at].L = append(t.Nodes[at].L, len(t.Nodes))
		lay(t, kid)
	}
}

// writer writes knots as a text, and tells each one its place there.
type writer struct {
	text  strings.Builder
	gap   func() string
	open  int
	last  string
	wrong int // the place of the first token at which too many are open; -1: none
}

func newWriter(gap func() string) *writer { return &writer{gap: gap, wrong: -1} }

// apart: these bytes stand in no token with others.
const apart = "(){},;."

// token writes a token, and answers its place.
func (w *writer) token(s string) int {
	gap := w.gap()
	if gap == "" && w.last != "" && !strings.ContainsAny(apart, w.last[len(w.last)-1:]) && !strings.ContainsAny(apart, s[:1]) {
		gap = " "
	}
	if w.last == "/" && strings.HasPrefix(gap, "/") {
		gap = " " + gap
	}
	w.text.WriteString(gap)
	at := w.text.Len()
	if w.open > 256 && w.wrong < 0 {
		w.wrong = at
	}
	w.text.WriteString(s)
	w.last = s
	return at
}

func (w *writer) tokens(s ...string) {
	for _, one := range s {
		w.token(one)
	}
}

// in writes what stands between two signs.
func (w *writer) in(first, last string, inner func()) int {
	at := w.token(first)
	w.open++
	inner()
	w.token(last)
	w.open--
	return at
}

func (w *writer) list(between string, l []*knot, one func(*knot)) {
	for i, x := range l {
		if i > 0 {
			w.token(between)
		}
		one(x)
	}
}

// write writes a file, a type or an expression.
func (w *writer) write(x *knot) {
	switch {
	case x.n.Kind == api.NFile:
		for i, item := range x.kids {
			w.item(item)
			if i == 0 {
				x.n.At = item.n.At
			}
		}
	case x.n.Kind >= api.NInt:
		w.expression(x, 1)
	default:
		w.typeOf(x)
	}
}

func (w *writer) item(x *knot) {
	if x.n.Kind == api.NStruct {
		x.n.At = w.token("struct")
		w.token(x.n.S)
		w.in("{", "}", func() { w.list(",", x.kids, w.typed) })
		return
	}
	x.n.At = w.token("fn")
	w.token(x.n.S)
	lives, rest := x.kids[:x.n.N], x.kids[x.n.N:]
	if len(lives) > 0 {
		w.token("<")
		w.list(",", lives, w.life)
		w.token(">")
	}
	w.in("(", ")", func() { w.list(",", rest[:len(rest)-2], w.typed) })
	w.token("->")
	w.typeOf(rest[len(rest)-2])
	w.statement(rest[len(rest)-1])
}

func (w *writer) typed(x *knot) {
	x.n.At = w.token(x.n.S)
	w.token(":")
	w.typeOf(x.kids[0])
}

func (w *writer) life(x *knot) {
	x.n.At = w.token("'" + x.n.S)
	if len(x.kids) > 0 {
		w.token(":")
		w.list("+", x.kids, func(b *knot) { b.n.At = w.token("'" + b.n.S) })
	}
}

func (w *writer) typeOf(x *knot) {
	switch x.n.Kind {
	case api.NTyInt:
		x.n.At = w.token("i64")
	case api.NTyBool:
		x.n.At = w.token("bool")
	case api.NTyName:
		x.n.At = w.token(x.n.S)
	case api.NTyBox:
		x.n.At = w.token("Box")
		w.in("<", ">", func() { w.typeOf(x.kids[0]) })
	case api.NTyRef:
		x.n.At = w.token("&")
		w.open++
		if x.n.S != "" {
			w.token("'" + x.n.S)
		}
		if x.n.N == 1 {
			w.token("mut")
		}
		w.typeOf(x.kids[0])
		w.open--
	}
}

func (w *writer) statement(x *knot) {
	switch x.n.Kind {
	case api.NBlock:
		x.n.At = w.in("{", "}", func() {
			for _, s := range x.kids {
				w.statement(s)
			}
		})
		return
	case api.NIf:
		x.n.At = w.token("if")
		w.expression(x.kids[0], 1)
		w.statement(x.kids[1])
		if x.n.N == 1 {
			w.token("else")
			w.statement(x.kids[2])
		}
		return
	case api.NWhile:
		x.n.At = w.token("while")
		w.expression(x.kids[0], 1)
		w.statement(x.kids[1])
		return
	case api.NLoop:
		x.n.At = w.token("loop")
		w.statement(x.kids[0])
		return
	case api.NLet:
		x.n.At = w.token("let")
		w.token(x.n.S)
		if x.n.N != 2 {
			w.token(":")
			w.typeOf(x.kids[0])
		}
		if x.n.N != 1 {
			w.token("=")
			w.expression(x.kids[len(x.kids)-1], 1)
		}
	case api.NAssign:
		x.n.At = w.expression(x.kids[0], 1)
		w.token("=")
		w.expression(x.kids[1], 1)
	case api.NBreak:
		x.n.At = w.token("break")
	case api.NContinue:
		x.n.At = w.token("continue")
	case api.NReturn:
		x.n.At = w.token("return")
		w.expression(x.kids[0], 1)
	case api.NPrint:
		x.n.At = w.token("print")
		w.in("(", ")", func() { w.expression(x.kids[0], 1) })
	case api.NExpr:
		x.n.At = w.expression(x.kids[0], 1)
	}
	w.token(";")
}

var levels = map[string]int{"||": 1, "&&": 2, "==": 3, "!=": 3, "<": 3, "<=": 3, ">": 3, ">=": 3, "+": 4, "-": 4, "*": 5, "/": 5, "%": 5}

func level(x *knot) int {
	switch x.n.Kind {
	case api.NBin:
		return levels[x.n.S]
	case api.NNeg, api.NNot, api.NDeref, api.NRef:
		return 6
	case api.NDot:
		return 7
	}
	return 8
}

// expression writes x where something of this level or more must be, and answers the place of its first token, brackets and all.
func (w *writer) expression(x *knot, least int) int {
	brackets := x.brackets
	if brackets == 0 && level(x) < least {
		brackets = 1
	}
	return w.bracketed(x, brackets)
}

func (w *writer) bracketed(x *knot, brackets int) int {
	if brackets > 0 {
		return w.in("(", ")", func() { w.bracketed(x, brackets-1) })
	}
	x.n.At = w.bare(x)
	return x.n.At
}

// bare writes x without brackets, and answers the place of its first token.
func (w *writer) bare(x *knot) int {
	switch x.n.Kind {
	case api.NBin:
		l := level(x)
		left := l
		if l == 3 {
			left = 4
		}
		at := w.expression(x.kids[0], left)
		w.token(x.n.S)
		w.expression(x.kids[1], l+1)
		return at
	case api.NDot:
		at := w.expression(x.kids[0], 7)
		w.tokens(".", x.n.S)
		return at
	case api.NNeg, api.NNot, api.NDeref, api.NRef:
		at := w.token(map[api.NodeKind]string{api.NNeg: "-", api.NNot: "!", api.NDeref: "*", api.NRef: "&"}[x.n.Kind])
		w.open++
		if x.n.N == 1 {
			w.token("mut")
		}
		w.expression(x.kids[0], 6)
		w.open--
		return at
	case api.NMake:
		at := w.token(x.n.S)
		w.in("{", "}", func() {
			w.list(",", x.kids, func(i *knot) {
				i.n.At = w.token(i.n.S)
				w.token(":")
				w.expression(i.kids[0], 1)
			})
		})
		return at
	}
	return w.callLike(x)
}

func (w *writer) callLike(x *knot) int {
	handed := func(name string) int {
		at := w.token(name)
		w.in("(", ")", func() { w.list(",", x.kids, func(e *knot) { w.expression(e, 1) }) })
		return at
	}
	switch x.n.Kind {
	case api.NCall:
		return handed(x.n.S)
	case api.NBox:
		return handed("box")
	case api.NRead:
		return handed("read")
	case api.NInt:
		return w.token(map[int64]string{0: "0", 1: "1", 7: "7", 1<<63 - 1: "9223372036854775807"}[x.n.N])
	case api.NBool:
		return w.token([]string{"false", "true"}[x.n.N])
	}
	return w.token(x.n.S)
}

// chance makes knots that may be, with brackets here and there.
type chance struct{ *rand.Rand }

func (c chance) file(deep int) *knot {
	return k(api.NFile, "", 0, c.many(0, 4, func() *knot { return c.item(deep) })...)
}

func (c chance) many(least, most int, one func() *knot) []*knot {
	var l []*knot
	for range least + c.Intn(most-least+1) {
		l = append(l, one())
	}
	return l
}

func (c chance) one(s ...string) string { return s[c.Intn(len(s))] }

func (c chance) name() string {
	return c.one("a", "x1", "y_", "boxes", "i640", strings.Repeat("n", 32))
}

func (c chance) typeName() string { return c.one("A", "Pair", "Boxes", "BOX", strings.Repeat("N", 32)) }

func (c chance) item(deep int) *knot {
	typed := func(kind api.NodeKind) func() *knot {
		return func() *knot { return k(kind, c.name(), 0, c.typeOf(deep)) }
	}
	if c.Intn(3) == 0 {
		return k(api.NStruct, c.typeName(), 0, c.many(1, 8, typed(api.NField))...)
	}
	lives := c.many(0, 8*c.Intn(2), func() *knot {
		return k(api.NLife, c.name(), 0, c.many(0, 8*c.Intn(2), func() *knot { return k(api.NBound, c.name(), 0) })...)
	})
	kids := append(lives, c.many(0, 8, typed(api.NParam))...)
	return k(api.NFn, c.name(), int64(len(lives)), append(kids, c.typeOf(deep), c.block(deep))...)
}

func (c chance) typeOf(deep int) *knot {
	pick := c.Intn(5)
	if deep <= 0 {
		pick = c.Intn(3)
	}
	switch pick {
	case 0:
		return k(api.NTyInt, "", 0)
	case 1:
		return k(api.NTyBool, "", 0)
	case 2:
		return k(api.NTyName, c.typeName(), 0)
	case 3:
		return k(api.NTyBox, "", 0, c.typeOf(deep-1))
	}
	return k(api.NTyRef, c.one("", c.name()), int64(c.Intn(2)), c.typeOf(deep-1))
}

func (c chance) block(deep int) *knot {
	if deep <= 0 {
		return k(api.NBlock, "", 0)
	}
	return k(api.NBlock, "", 0, c.many(0, 3, func() *knot { return c.statement(deep - 1) })...)
}

func (c chance) statement(deep int) *knot {
	e := func() *knot { return c.expression(deep - 1) }
	switch c.Intn(11) {
	case 0:
		return k(api.NLet, c.name(), 1, c.typeOf(deep-1))
	case 1:
		return k(api.NLet, c.name(), 2, e())
	case 2:
		return k(api.NLet, c.name(), 3, c.typeOf(deep-1), e())
	case 3:
		return k(api.NAssign, "", 0, e(), e())
	case 4:
		return c.ifElse(deep)
	case 5:
		return k(api.NWhile, "", 0, e(), c.block(deep-1))
	case 6:
		return k(api.NLoop, "", 0, c.block(deep-1))
	case 7:
		return k(api.NBreak+api.NodeKind(c.Intn(2)), "", 0)
	case 8:
		return k(api.NReturn+api.NodeKind(c.Intn(2)), "", 0, e())
	case 9:
		return k(api.NExpr, "", 0, k(api.NCall, c.name(), 0, c.many(0, 8, e)...))
	}
	return c.block(deep - 1)
}

func (c chance) ifElse(deep int) *knot {
	kids := []*knot{c.expression(deep - 1), c.block(deep - 1)}
	switch c.Intn(3) {
	case 0:
		return k(api.NIf, "", 0, kids...)
	case 1:
		return k(api.NIf, "", 1, append(kids, c.block(deep-1))...)
	}
	return k(api.NIf, "", 1, append(kids, c.ifElse(deep-1))...)
}

var signs = strings.Fields("+ - * / % == != < <= > >= && ||")

func (c chance) expression(deep int) *knot {
	x := c.plain(deep)
	if c.Intn(6) == 0 {
		x.brackets = 1 + c.Intn(2)
	}
	return x
}

func (c chance) plain(deep int) *knot {
	e := func() *knot { return c.expression(deep - 1) }
	pick := c.Intn(13)
	if deep <= 0 {
		pick = c.Intn(4)
	}
	switch pick {
	case 0:
		return k(api.NInt, "", []int64{0, 1, 7, 1<<63 - 1}[c.Intn(4)])
	case 1:
		return k(api.NBool, "", int64(c.Intn(2)))
	case 2:
		return k(api.NVar, c.name(), 0)
	case 3:
		return k(api.NRead, "", 0)
	case 4:
		return k(api.NDot, c.name(), 0, e())
	case 5:
		return k(api.NRef, "", int64(c.Intn(2)), e())
	case 6, 7, 8:
		return k(api.NBin, c.one(signs...), 0, e(), e())
	case 9:
		return k(api.NCall, c.name(), 0, c.many(0, 8, e)...)
	case 10:
		return k(api.NMake, c.typeName(), 0, c.many(1, 8, func() *knot { return k(api.NInit, c.name(), 0, e()) })...)
	}
	return k([]api.NodeKind{api.NDeref, api.NNeg, api.NNot, api.NBox}[c.Intn(4)], "", 0, e())
}

// gap is what may stand between two tokens.
func (c chance) gap() string {
	return c.one("", "", " ", "\n", "\t ", "\r", " // let\n", "//\n// '(@\n")
}

func blank() string { return " " }
