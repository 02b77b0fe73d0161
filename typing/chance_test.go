package typing_test

import (
	"math/rand"
	"strings"

	"loanword/api"
	"loanword/tree"
)

// chance makes texts, most of them well typed. Types are texts as they are written, without lifetimes.
type chance struct {
	*rand.Rand
	structs []made
	fns     []made
	scope   []variable
	fn      made
	loops   int
	wrap    func(string) string // puts brackets around an expression, or does not
	wrong   int                 // one of so many choices is a wrong one
}

// made is a struct or a function: its fields or parameters, what it answers.
type made struct {
	name, answer string
	parts        []variable
}

type variable struct {
	name, is string
}

func byChance(seed int64) *chance {
	return &chance{Rand: rand.New(rand.NewSource(seed)), wrap: func(s string) string { return s }, wrong: 400}
}

func (c *chance) of(l ...string) string { return l[c.Intn(len(l))] }

// astray: is this the time for something wrong?
func (c *chance) astray() bool { return c.wrong > 0 && c.Intn(c.wrong) == 0 }

// fileText is a file: structs, functions that call what stands ahead of them (or anything), main.
func (c *chance) fileText() string { return strings.Join(c.items(), " ") }

func (c *chance) items() []string {
	c.structs, c.fns = nil, nil
	var items []string
	for _, name := range []string{"P", "S", "T"}[:1+c.Intn(3)] {
		s := made{name: name}
		for _, field := range []string{"a", "b", "c", "d"}[:1+c.Intn(4)] {
			s.parts = append(s.parts, variable{field, c.fieldType()})
		}
		c.structs = append(c.structs, s)
		items = append(items, "struct "+name+" { "+listed(s.parts)+" }")
	}
	c.fns = append(c.fns, made{name: "main", answer: "i64"})
	bodies := []func() string{func() string { return "fn main() -> i64 " + c.body(0) }}
	for i, name := range []string{"f", "g", "h"}[:c.Intn(4)] {
		f, lives := c.signature(name)
		c.fns = append(c.fns, f)
		bodies = append(bodies, func() string { return "fn " + name + lives + " " + c.body(i+1) })
	}
	for _, body := range bodies {
		items = append(items, body())
	}
	return items
}

func listed(l []variable) string {
	var s []string
	for _, v := range l {
		s = append(s, v.name+": "+v.is)
	}
	return strings.Join(s, ", ")
}

// fieldType is of the structs that stand ahead, and of the one that is made behind a box.
func (c *chance) fieldType() string {
	if len(c.structs) > 0 && c.Intn(3) == 0 {
		return c.structs[c.Intn(len(c.structs))].name
	}
	if len(c.structs) > 0 && c.Intn(4) == 0 {
		return "Box<" + c.structs[c.Intn(len(c.structs))].name + ">"
	}
	return c.of("i64", "bool", "Box<i64>", "Box<Box<bool>>", "i64")
}

// can: is there something of this type, or to make it of? (What a reference points to must be there.)
func (c *chance) can(is string) bool {
	if strings.HasPrefix(is, "Box<") {
		return c.can(pointee(is))
	}
	return is[0] != '&' || len(c.lendable(is)) > 0
}

// lendable are the places to which a reference of this type can point.
func (c *chance) lendable(is string) []placed {
	mut := strings.HasPrefix(is, "&mut ")
	return c.places(func(p placed) bool { return p.is == pointee(is) && (!mut || !p.shared || c.astray()) })
}

// canCall: is there something for each parameter?
func (c *chance) canCall(f made) bool {
	for _, p := range f.parts {
		if !c.can(p.is) {
			return false
		}
	}
	return true
}

// signature is a function's, and its head as it is written: references have the lifetime 'a, or none where that is well.
func (c *chance) signature(name string) (made, string) {
	f := made{name: name, answer: c.anyType(2)}
	var written []string
	for _, p := range []string{"x", "y", "z"}[:c.Intn(4)] {
		is := c.anyType(2)
		f.parts = append(f.parts, variable{p, is})
		written = append(written, p+": "+strings.ReplaceAll(is, "&", c.of("&'a ", "& ")))
	}
	return f, "<'a>(" + strings.Join(written, ", ") + ") -> " + strings.ReplaceAll(f.answer, "&", "&'a ")
}

// anyType has at most so many layers.
func (c *chance) anyType(most int) string {
	s := c.of("i64", "bool", "P", c.structs[c.Intn(len(c.structs))].name)
	for range c.Intn(most + 1) {
		s = c.of("Box<"+s+">", refTo(false, s), refTo(true, s))
	}
	return s
}

func (c *chance) body(fn int) string {
	c.fn = c.fns[fn]
	c.scope, c.loops = append([]variable(nil), c.fn.parts...), 0
	return c.block(3)
}

func (c *chance) block(deep int) string {
	count := len(c.scope)
	var l []string
	for range 1 + c.Intn(5) {
		l = append(l, c.statement(deep))
	}
	c.scope = c.scope[:count]
	return "{ " + strings.Join(l, " ") + " }"
}

func (c *chance) statement(deep int) string {
	if deep > 0 && c.Intn(4) == 0 {
		return c.nested(deep - 1)
	}
	switch c.Intn(8) {
	case 0:
		if places := c.places(func(p placed) bool { return !p.shared || c.astray() }); len(places) > 0 {
			p := places[c.Intn(len(places))]
			return c.wrap(p.text) + " = " + c.expression(p.is, 2) + ";"
		}
	case 1:
		return "print(" + c.expression("i64", 2) + ");"
	case 2:
		if f := c.fns[c.Intn(len(c.fns))]; c.canCall(f) {
			return c.call(f, 2) + ";"
		}
	case 3:
		if c.loops > 0 || c.wrong > 0 && c.Intn(100) == 0 {
			return c.of("break;", "continue;")
		}
	case 4:
		if c.Intn(3) == 0 && c.can(c.fn.answer) {
			return "return " + c.expression(c.fn.answer, 2) + ";"
		}
	}
	return c.let()
}

func (c *chance) let() string {
	v := variable{c.of("u", "v", "w", "x"), c.anyType(2)}
	for !c.can(v.is) {
		v.is = c.anyType(2)
	}
	written := v.is
	if c.fn.name != "main" && c.Intn(3) == 0 || c.astray() {
		written = strings.ReplaceAll(v.is, "&", "&'a ")
	}
	if c.astray() {
		written = c.of("X", "Box<X>", "&'z i64")
	}
	s := "let " + v.name
	switch c.Intn(3) {
	case 0:
		s += ": " + written
	case 1:
		s += ": " + written + " = " + c.expression(v.is, 3)
	default:
		s += " = " + c.expression(v.is, 3)
	}
	c.scope = append(c.scope, v)
	return s + ";"
}

func (c *chance) nested(deep int) string {
	condition := c.expression("bool", 2)
	switch c.Intn(5) {
	case 0:
		return "if " + condition + " " + c.block(deep)
	case 1:
		return "if " + condition + " " + c.block(deep) + " else if " + c.expression("bool", 2) + " " + c.block(deep) + " else " + c.block(deep)
	case 2:
		return c.block(deep)
	}
	c.loops++
	s := c.block(deep)
	c.loops--
	return c.of("loop "+s, "while "+condition+" "+s)
}

// placed is a place expression, its type, and what it goes through.
type placed struct {
	text, is          string
	reference, shared bool
}

// places are those of up to three steps from the variables that are meant here, as far as they are wanted.
func (c *chance) places(wanted func(placed) bool) []placed {
	var all, out []placed
	for i, v := range c.scope {
		hidden := false
		for _, later := range c.scope[i+1:] {
			hidden = hidden || later.name == v.name
		}
		if !hidden {
			all = append(all, placed{text: v.name, is: v.is})
		}
	}
	for from, step := 0, 0; step < 3; step++ {
		end := len(all)
		for _, p := range all[from:end] {
			all = append(all, c.steps(p)...)
		}
		from = end
	}
	for _, p := range all {
		if wanted(p) {
			out = append(out, p)
		}
	}
	return out
}

func (c *chance) steps(p placed) []placed {
	var l []placed
	if inner := pointee(p.is); inner != "" {
		q := placed{"*" + p.text, inner, p.reference, p.shared}
		q.reference = q.reference || p.is[0] == '&'
		q.shared = q.shared || p.is[0] == '&' && !strings.HasPrefix(p.is, "&mut ")
		l = append(l, q)
	}
	for _, s := range c.structs {
		if s.name != p.is {
			continue
		}
		for _, f := range s.parts {
			text := p.text
			if text[0] == '*' {
				text = "(" + text + ")"
			}
			l = append(l, placed{text + "." + f.name, f.is, p.reference, p.shared})
		}
	}
	return l
}

func copies(is string) bool {
	return is == "i64" || is == "bool" || is[0] == '&' && !strings.HasPrefix(is, "&mut ")
}

// expression is of this type, with at most so many layers where that can be.
func (c *chance) expression(is string, deep int) string {
	if c.astray() {
		return c.wrap(c.of("nothing", "-true", "*1", "nobody()", "&1", "1", "true", "box(1)", "P { z: 1 }"))
	}
	places := c.places(func(p placed) bool {
		return p.is == is && (copies(is) || !p.reference || c.wrong > 0 && c.Intn(25) == 0)
	})
	if len(places) > 0 && (deep <= 0 || c.Intn(2) == 0) {
		return c.wrap(places[c.Intn(len(places))].text)
	}
	if deep > 0 && c.Intn(3) == 0 {
		for _, i := range c.Perm(len(c.fns)) {
			if c.fns[i].answer == is && c.canCall(c.fns[i]) {
				return c.wrap(c.call(c.fns[i], deep-1))
			}
		}
	}
	return c.wrap(c.fresh(is, deep))
}

// fresh is an expression that makes a value of this type.
func (c *chance) fresh(is string, deep int) string {
	sub := func(is string) string { return c.expression(is, deep-1) }
	switch {
	case is == "i64" && deep > 0:
		return c.of("-("+sub("i64")+")", "("+sub("i64")+") "+c.of("+", "-", "*", "/", "%")+" ("+sub("i64")+")", "read()")
	case is == "i64":
		return c.of("0", "7", "read()")
	case is == "bool" && deep > 0:
		same := c.of("i64", "bool")
		return c.of("!("+sub("bool")+")", "("+sub("i64")+") "+c.of("<", "<=", ">", ">=")+" ("+sub("i64")+")",
			"("+sub(same)+") "+c.of("==", "!=")+" ("+sub(same)+")", "("+sub("bool")+") "+c.of("&&", "||")+" ("+sub("bool")+")")
	case is == "bool":
		return c.of("true", "false")
	case strings.HasPrefix(is, "Box<"):
		return "box(" + sub(pointee(is)) + ")"
	case is[0] == '&':
		return c.borrow(is, deep)
	}
	return c.construct(is, deep)
}

// borrow takes a place of what is pointed to; where there is none, it calls a function that answers such a reference; where there is none either, it names nothing.
func (c *chance) borrow(is string, deep int) string {
	places := c.lendable(is)
	if len(places) == 0 {
		for _, f := range c.fns {
			if f.answer == is && deep > -3 && c.canCall(f) {
				return c.call(f, deep-1)
			}
		}
		return "none"
	}
	p := places[c.Intn(len(places))].text
	if strings.HasPrefix(is, "&mut ") {
		return "&mut " + p
	}
	return "& " + p
}

func (c *chance) construct(is string, deep int) string {
	for _, s := range c.structs {
		if s.name != is {
			continue
		}
		if deep < -12 {
			return "none"
		}
		var l []string
		for _, i := range c.Perm(len(s.parts)) {
			l = append(l, s.parts[i].name+": "+c.expression(s.parts[i].is, deep-1))
		}
		if c.astray() {
			l = append(l, l[c.Intn(len(l))])
		}
		if c.astray() && len(l) > 1 {
			l = l[1:]
		}
		return is + " { " + strings.Join(l, ", ") + " }"
	}
	return "none"
}

func (c *chance) call(f made, deep int) string {
	var l []string
	for _, p := range f.parts {
		l = append(l, c.expression(p.is, deep-1))
	}
	if c.astray() {
		l = append(l, "1")
	}
	return f.name + "(" + strings.Join(l, ", ") + ")"
}

// damaged is a tree with some nodes changed, mostly one that may be.
func (c *chance) damaged(f api.Tree) api.Tree {
	for {
		own, _ := tree.Own(f)
		for range 1 + c.Intn(2) {
			c.damage(&own)
		}
		if tree.May(own) || c.Intn(30) == 0 {
			return own
		}
	}
}

// damage changes one node.
func (c *chance) damage(f *api.Tree) {
	x := &f.Nodes[c.Intn(len(f.Nodes))]
	switch c.Intn(6) {
	case 0, 1:
		x.S = c.of("a", "b", "P", "S", "f", "g", "main", "u", "v", "w", "x", "y", "+", "&&", "==", "<")
	case 2:
		x.Kind = []api.NodeKind{api.NNeg, api.NNot, api.NDeref, api.NRef, api.NBox, api.NVar, api.NInt, api.NBool, api.NBreak, api.NLoop, api.NBlock, api.NPrint, api.NReturn, api.NTyBox}[c.Intn(14)]
	case 3:
		x.N = int64(c.Intn(4))
	case 4:
		*x = f.Nodes[c.Intn(len(f.Nodes))]
	case 5:
		if k := c.Intn(len(f.Nodes)); f.Nodes[k].Kind == x.Kind {
			x.S, f.Nodes[k].S = f.Nodes[k].S, x.S
		}
	}
}
