package print_test

import (
	"math/rand"
	"strconv"
	"strings"

	"loanword/api"
)

// knot is a node with its children in it: a tree that needs no numbers.
type knot struct {
	n    api.Node
	kids []*knot
}

func k(kind api.NodeKind, s string, n int64, kids ...*knot) *knot {
	return &knot{api.Node{Kind: kind, S: s, N: n}, kids}
}

func v(name string) *knot { return k(api.NVar, name, 0) }

func bin(sign string, a, b *knot) *knot { return k(api.NBin, sign, 0, a, b) }

func block(l ...*knot) *knot { return k(api.NBlock, "", 0, l...) }

var (
	aType  = k(api.NTyInt, "", 0)
	aBreak = k(api.NBreak, "", 0)
)

// flat is a knot as a tree.
func flat(x *knot) api.Tree {
	var t api.Tree
	lay(&t, x)
	return t
}

func lay(t *api.Tree, x *knot) {
	at := len(t.Nodes)
	n := x.n
	n.L = nil
	t.Nodes = append(t.Nodes, n)
	for _, kid := range x.kids {
		t.Nodes[at].L = append(t.Nodes[at].L, len(t.Nodes))
		lay(t, kid)
	}
}

// below is x and all knots below it.
func below(x *knot) []*knot {
	l := []*knot{x}
	for _, kid := range x.kids {
		l = append(l, below(kid)...)
	}
	return l
}

// patterns are the chapter's texts by kind and N: %s the name, %n the number, %a %b %c the children (of an expression behind it the level at which it is told), %l all of them with a comma between each two. (N of an NInt and of an NFn counts for nothing here.)
var patterns = map[api.NodeKind][]string{
	api.NStruct:   {"struct %s { %l }"},
	api.NField:    {"%s: %a"},
	api.NParam:    {"%s: %a"},
	api.NBound:    {"'%s"},
	api.NTyInt:    {"i64"},
	api.NTyBool:   {"bool"},
	api.NTyBox:    {"Box<%a>"},
	api.NTyRef:    {"&%a", "&mut %a"},
	api.NTyName:   {"%s"},
	api.NLet:      {"", "let %s: %a;", "let %s = %a1;", "let %s: %a = %b1;"},
	api.NAssign:   {"%a1 = %b1;"},
	api.NIf:       {"if %a1 %b", "if %a1 %b else %c"},
	api.NWhile:    {"while %a1 %b"},
	api.NLoop:     {"loop %a"},
	api.NBreak:    {"break;"},
	api.NContinue: {"continue;"},
	api.NReturn:   {"return %a1;"},
	api.NPrint:    {"print(%a1);"},
	api.NExpr:     {"%a1;"},
	api.NInt:      {"%n"},
	api.NBool:     {"false", "true"},
	api.NVar:      {"%s"},
	api.NDot:      {"%a7.%s"},
	api.NDeref:    {"*%a6"},
	api.NRef:      {"&%a6", "&mut %a6"},
	api.NNeg:      {"-%a6"},
	api.NNot:      {"!%a6"},
	api.NCall:     {"%s(%l)"},
	api.NMake:     {"%s { %l }"},
	api.NInit:     {"%s: %a1"},
	api.NBox:      {"box(%a1)"},
	api.NRead:     {"read()"},
}

// signPatterns: those of NBin, by the sign's level.
var signPatterns = []string{"", "%a1 %s %b2", "%a2 %s %b3", "%a4 %s %b4", "%a4 %s %b5", "%a5 %s %b6"}

var signLevels = map[string]int{"||": 1, "&&": 2, "==": 3, "!=": 3, "<": 3, "<=": 3, ">": 3, ">=": 3, "+": 4, "-": 4, "*": 5, "/": 5, "%": 5}

func plainLevel(n api.Node) int {
	switch n.Kind {
	case api.NBin:
		return signLevels[n.S]
	case api.NNeg, api.NNot, api.NDeref, api.NRef:
		return 6
	case api.NDot:
		return 7
	}
	return 8
}

// plainText is what the chapter says of a knot, of any kind: the lines with a byte 10 between each two.
func plainText(x *knot) string {
	return apart(filled(x))
}

// apart puts a blank into each && that is no sign between two.
func apart(s string) string {
	for at := 0; at+1 < len(s); at++ {
		if s[at:at+2] == "&&" && !strings.HasPrefix(s[at+2:], " ") {
			s = s[:at+1] + " " + s[at+1:]
		}
	}
	return s
}

func filled(x *knot) string {
	switch x.n.Kind {
	case api.NFile:
		return strings.Join(filledAll(x.kids), "\n")
	case api.NBlock:
		s := "{\n"
		for _, kid := range x.kids {
			s += "    " + strings.ReplaceAll(filled(kid), "\n", "\n    ") + "\n"
		}
		return s + "}"
	case api.NFn:
		all := filledAll(x.kids)
		rest := all[x.n.N:]
		last := len(rest) - 2
		return "fn " + x.n.S + strings.ReplaceAll("<"+strings.Join(all[:x.n.N], ", ")+">", "<>", "") + "(" + strings.Join(rest[:last], ", ") + ") -> " + rest[last] + " " + rest[last+1]
	case api.NLife:
		return strings.TrimSuffix("'"+x.n.S+": "+strings.Join(filledAll(x.kids), " + "), ": ")
	case api.NBin:
		return fill(signPatterns[signLevels[x.n.S]], x)
	case api.NInt:
		return fill(patterns[api.NInt][0], x)
	}
	pattern := patterns[x.n.Kind][x.n.N]
	if x.n.Kind == api.NTyRef && x.n.S != "" {
		pattern = strings.Replace(pattern, "&", "&'%s ", 1)
	}
	return fill(pattern, x)
}

func filledAll(l []*knot) []string {
	var texts []string
	for _, x := range l {
		texts = append(texts, filled(x))
	}
	return texts
}

// fill puts into a pattern what it asks for.
func fill(pattern string, x *knot) string {
	parts := strings.Split(pattern, "%")
	s := parts[0]
	for _, part := range parts[1:] {
		what, rest := part[0], part[1:]
		switch what {
		case 's':
			s += x.n.S
		case 'n':
			s += strconv.FormatInt(x.n.N, 10)
		case 'l':
			s += strings.Join(filledAll(x.kids), ", ")
		default:
			kid := x.kids[what-'a']
			text := filled(kid)
			if kid.n.Kind >= api.NInt {
				if plainLevel(kid.n) < int(rest[0]-'0') {
					text = "(" + text + ")"
				}
				rest = rest[1:]
			}
			s += text
		}
		s += rest
	}
	return s
}

// chance makes knots that may be.
type chance struct{ *rand.Rand }

func byChance(seed int64) chance { return chance{rand.New(rand.NewSource(seed))} }

func (c chance) many(least, most int, one func() *knot) []*knot {
	var l []*knot
	for range least + c.Intn(most-least+1) {
		l = append(l, one())
	}
	return l
}

func (c chance) one(s ...string) string { return s[c.Intn(len(s))] }

func (c chance) name() string {
	return c.one("a", "x1", "y_", "boxes", "i640", "mut_", strings.Repeat("n", 32))
}

func (c chance) typeName() string { return c.one("A", "Pair", "Boxes", "BOX", strings.Repeat("N", 32)) }

// any is a knot that has a text of its own: a file, an item, a statement, a type, an expression.
func (c chance) any(deep int) *knot {
	switch c.Intn(6) {
	case 0:
		return c.file(deep)
	case 1:
		return c.item(deep)
	case 2:
		return c.statement(deep)
	case 3:
		return c.typeOf(deep + 3)
	}
	return c.expression(deep)
}

func (c chance) file(deep int) *knot {
	return k(api.NFile, "", 0, c.many(0, 3, func() *knot { return c.item(deep) })...)
}

func (c chance) item(deep int) *knot {
	typed := func(kind api.NodeKind) func() *knot {
		return func() *knot { return k(kind, c.name(), 0, c.typeOf(deep)) }
	}
	if c.Intn(3) == 0 {
		return k(api.NStruct, c.typeName(), 0, c.many(1, 8, typed(api.NField))...)
	}
	bound := func() *knot { return k(api.NBound, c.name(), 0) }
	lives := c.many(0, 8*c.Intn(2), func() *knot { return k(api.NLife, c.name(), 0, c.many(0, 8*c.Intn(2), bound)...) })
	kids := append(lives, c.many(0, 8, typed(api.NParam))...)
	return k(api.NFn, c.name(), int64(len(lives)), append(kids, c.typeOf(deep), c.block(deep))...)
}

func (c chance) typeOf(deep int) *knot {
	pick := c.Intn(6)
	if deep <= 0 {
		pick = c.Intn(3)
	}
	switch pick {
	case 0:
		return k(api.NTyInt, "", 0)
	case 1:
		return k(api.NTyBool, "", 0)
	case 2:
		return k(api.NTyName, c.typeName(), 0)
	case 3:
		return k(api.NTyBox, "", 0, c.typeOf(deep-1))
	}
	return k(api.NTyRef, c.one("", c.name()), int64(c.Intn(2)), c.typeOf(deep-1))
}

func (c chance) block(deep int) *knot {
	if deep <= 0 {
		return block()
	}
	return block(c.many(0, 3, func() *knot { return c.statement(deep - 1) })...)
}

func (c chance) statement(deep int) *knot {
	e := func() *knot { return c.expression(deep - 1) }
	switch c.Intn(11) {
	case 0:
		return k(api.NLet, c.name(), 1, c.typeOf(deep-1))
	case 1:
		return k(api.NLet, c.name(), 2, e())
	case 2:
		return k(api.NLet, c.name(), 3, c.typeOf(deep-1), e())
	case 3:
		return k(api.NAssign, "", 0, e(), e())
	case 4:
		return c.ifElse(deep)
	case 5:
		return k(api.NWhile, "", 0, e(), c.block(deep-1))
	case 6:
		return k(api.NLoop, "", 0, c.block(deep-1))
	case 7:
		return k(api.NBreak+api.NodeKind(c.Intn(2)), "", 0)
	case 8:
		return k(api.NReturn+api.NodeKind(c.Intn(2)), "", 0, e())
	case 9:
		return k(api.NExpr, "", 0, k(api.NCall, c.name(), 0, c.many(0, 8, e)...))
	}
	return c.block(deep - 1)
}

func (c chance) ifElse(deep int) *knot {
	kids := []*knot{c.expression(deep - 1), c.block(deep - 1)}
	switch c.Intn(3) {
	case 0:
		return k(api.NIf, "", 0, kids...)
	case 1:
		return k(api.NIf, "", 1, append(kids, c.block(deep-1))...)
	}
	return k(api.NIf, "", 1, append(kids, c.ifElse(deep-1))...)
}

var signs = strings.Fields("+ - * / % == != < <= > >= && ||")

func (c chance) expression(deep int) *knot {
	e := func() *knot { return c.expression(deep - 1) }
	pick := c.Intn(14)
	if deep <= 0 {
		pick = c.Intn(4)
	}
	switch pick {
	case 0:
		return k(api.NInt, "", []int64{0, 1, 70, 1<<63 - 1}[c.Intn(4)])
	case 1:
		return k(api.NBool, "", int64(c.Intn(2)))
	case 2:
		return v(c.name())
	case 3:
		return k(api.NRead, "", 0)
	case 4:
		return k(api.NDot, c.name(), 0, e())
	case 5, 6:
		return k(api.NRef, "", int64(c.Intn(2)), e())
	case 7, 8, 9:
		return bin(c.one(signs...), e(), e())
	case 10:
		return k(api.NCall, c.name(), 0, c.many(0, 8, e)...)
	case 11:
		return k(api.NMake, c.typeName(), 0, c.many(1, 8, func() *knot { return k(api.NInit, c.name(), 0, e()) })...)
	}
	return k([]api.NodeKind{api.NDeref, api.NNeg, api.NNot, api.NBox}[c.Intn(4)], "", 0, e())
}
