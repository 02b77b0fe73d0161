package lower_test

import (
	"math/rand"
	"strings"
)

// chance makes texts of files, most of which typing takes. Types are texts without lifetimes.
type chance struct {
	*rand.Rand
	scope []variable
	fn    callable
	loops int
}

type variable struct {
	name, is string
}

// callable is a function: how its head is written, its parameters, what it answers.
type callable struct {
	name, head string
	params     []variable
	answer     string
}

const chanceStructs = "struct P { a: i64, b: Box<i64> } struct Q { p: P, q: Box<P>, t: bool } struct N { n: i64, t: bool }"

var chanceFields = map[string][]variable{
	"P": {{"a", "i64"}, {"b", "Box<i64>"}},
	"Q": {{"p", "P"}, {"q", "Box<P>"}, {"t", "bool"}},
	"N": {{"n", "i64"}, {"t", "bool"}},
}

var callables = []callable{
	{"one", "one() -> i64", nil, "i64"},
	{"yes", "yes<'a>(x: &'a bool, y: i64) -> bool", []variable{{"x", "&bool"}, {"y", "i64"}}, "bool"},
	{"two", "two(x: i64, y: bool) -> Box<i64>", []variable{{"x", "i64"}, {"y", "bool"}}, "Box<i64>"},
	{"ref", "ref<'a>(x: &'a P, y: &mut P) -> &'a P", []variable{{"x", "&P"}, {"y", "&mut P"}}, "&P"},
	{"pack", "pack(p: P, r: & &mut i64) -> Q", []variable{{"p", "P"}, {"r", "& &mut i64"}}, "Q"},
	{"same", "same<'a, 'b: 'a>(n: N, s: &'a mut &'b N) -> N", []variable{{"n", "N"}, {"s", "&mut &N"}}, "N"},
	{"deep", "deep<'a>(x: &'a mut Box<i64>) -> &'a mut i64", []variable{{"x", "&mut Box<i64>"}}, "&mut i64"},
	{"main", "main() -> i64", nil, "i64"},
}

func byChance(seed int64) *chance { return &chance{Rand: rand.New(rand.NewSource(seed))} }

func (c *chance) of(l ...string) string { return l[c.Intn(len(l))] }

// items are the texts of the functions, each with its body.
func (c *chance) items() []string {
	var l []string
	for _, f := range callables {
		c.fn, c.scope, c.loops = f, append([]variable(nil), f.params...), 0
		l = append(l, "fn "+f.head+" "+c.block(3))
	}
	return l
}

func (c *chance) fileText() string { return chanceStructs + " " + strings.Join(c.items(), " ") }

func (c *chance) block(deep int) string {
	count := len(c.scope)
	var l []string
	for range c.Intn(6) {
		l = append(l, c.statement(deep))
	}
	c.scope = c.scope[:count]
	return "{ " + strings.Join(l, " ") + " }"
}

func (c *chance) statement(deep int) string {
	if deep > 0 && c.Intn(3) == 0 {
		return c.nested(deep - 1)
	}
	switch c.Intn(9) {
	case 0, 1:
		if l := c.places(func(p placed) bool { return !p.shared && c.can(p.is) }); len(l) > 0 {
			p := l[c.Intn(len(l))]
			return p.text + " = " + c.expression(p.is, 2) + ";"
		}
	case 2:
		return "print(" + c.expression("i64", 2) + ");"
	case 3:
		if f := callables[c.Intn(len(callables))]; c.canCall(f) {
			return c.call(f, 2) + ";"
		}
	case 4:
		if c.loops > 0 {
			return c.of("break;", "continue;")
		}
	case 5:
		if c.can(c.fn.answer) {
			return "return " + c.expression(c.fn.answer, 2) + ";"
		}
	}
	return c.let()
}

var chanceTypes = []string{"i64", "bool", "Box<i64>", "P", "Q", "N", "&P", "&mut P", "&i64", "&mut i64", "& &mut i64", "&N", "&mut &N", "&bool", "&mut Box<i64>", "Box<&P>", "Box<Box<bool>>", "Box<Q>"}

func (c *chance) let() string {
	v := variable{c.of("u", "v", "w", "x"), c.of(chanceTypes...)}
	written := v.is
	if strings.Contains(c.fn.head, "'a") && c.Intn(2) == 0 {
		written = strings.ReplaceAll(v.is, "&", "&'a ")
	}
	var s string
	switch {
	case c.Intn(4) == 0 || !c.can(v.is):
		s = "let " + v.name + ": " + written + ";"
	case c.Intn(2) == 0:
		s = "let " + v.name + ": " + written + " = " + c.expression(v.is, 3) + ";"
	default:
		s = "let " + v.name + " = " + c.expression(v.is, 3) + ";"
	}
	c.scope = append(c.scope, v)
	return s
}

func (c *chance) nested(deep int) string {
	condition := c.expression("bool", 2)
	switch c.Intn(6) {
	case 0:
		return "if " + condition + " " + c.block(deep)
	case 1:
		return "if " + condition + " " + c.block(deep) + " else " + c.block(deep)
	case 2:
		return "if " + condition + " " + c.block(deep) + " else if " + c.expression("bool", 2) + " " + c.block(deep) + c.of("", " else "+c.block(deep))
	case 3:
		return c.block(deep)
	}
	c.loops++
	s := c.block(deep)
	c.loops--
	return c.of("loop "+s, "while "+condition+" "+s)
}

// placed is a place expression, its type, and whether it goes through a reference, a shared one.
type placed struct {
	text, is          string
	reference, shared bool
}

// places are those of up to three steps from the variables that are meant here, as far as they are wanted.
func (c *chance) places(wanted func(placed) bool) []placed {
	var all, out []placed
	met := map[string]int{}
	for i := len(c.scope) - 1; i >= 0; i-- {
		if v := c.scope[i]; met[v.name] == 0 {
			met[v.name]++
			all = append(all, placed{text: v.name, is: v.is})
		}
	}
	for from, step := 0, 0; step < 3; step++ {
		end := len(all)
		for _, p := range all[from:end] {
			all = append(all, steps(p)...)
		}
		from = end
	}
	for _, p := range all {
		if wanted(p) {
			out = append(out, p)
		}
	}
	return out
}

func steps(p placed) []placed {
	var l []placed
	if inner, ok := pointee(p.is); ok {
		l = append(l, placed{"(*" + p.text + ")", inner, p.reference || p.is[0] == '&', p.shared || p.is[0] == '&' && copied(p.is)})
	}
	for _, f := range chanceFields[p.is] {
		l = append(l, placed{p.text + "." + f.name, f.is, p.reference, p.shared})
	}
	return l
}

// pointee is what a box or a reference points to.
func pointee(is string) (string, bool) {
	if inner, ok := strings.CutPrefix(is, "Box<"); ok {
		return strings.TrimSuffix(inner, ">"), true
	}
	if inner, ok := strings.CutPrefix(is, "&mut "); ok {
		return inner, true
	}
	inner, ok := strings.CutPrefix(is, "&")
	return strings.TrimPrefix(inner, " "), ok
}

// lendable are the places to which a reference of this type can point.
func (c *chance) lendable(is string) []placed {
	inner, _ := pointee(is)
	return c.places(func(p placed) bool { return p.is == inner && (copied(is) || !p.shared) })
}

// can: is there something to make this type of?
func (c *chance) can(is string) bool {
	if inner, ok := strings.CutPrefix(is, "Box<"); ok {
		return c.can(strings.TrimSuffix(inner, ">"))
	}
	return is[0] != '&' || len(c.lendable(is)) > 0
}

func (c *chance) canCall(f callable) bool {
	for _, p := range f.params {
		if !c.can(p.is) {
			return false
		}
	}
	return true
}

func (c *chance) call(f callable, deep int) string {
	var l []string
	for _, p := range f.params {
		l = append(l, c.expression(p.is, deep-1))
	}
	return f.name + "(" + strings.Join(l, ", ") + ")"
}

// expression is of this type, which can be made.
func (c *chance) expression(is string, deep int) string {
	l := c.places(func(p placed) bool { return p.is == is && (copied(is) || !p.reference) })
	if len(l) > 0 && (deep <= 0 || c.Intn(2) == 0) {
		return l[c.Intn(len(l))].text
	}
	if deep > 0 && c.Intn(3) == 0 {
		for _, i := range c.Perm(len(callables)) {
			if callables[i].answer == is && c.canCall(callables[i]) {
				return c.call(callables[i], deep-1)
			}
		}
	}
	return c.fresh(is, deep)
}

func (c *chance) fresh(is string, deep int) string {
	sub := func(is string) string { return c.expression(is, deep-1) }
	inner, points := pointee(is)
	switch {
	case is == "i64" && deep > 0:
		return c.of("-("+sub("i64")+")", "("+sub("i64")+") "+c.of("+", "-", "*", "/", "%")+" ("+sub("i64")+")", "read()")
	case is == "i64":
		return c.of("0", "7", "read()")
	case is == "bool" && deep > 0:
		same := c.of("i64", "bool")
		return c.of("!("+sub("bool")+")", "("+sub("i64")+") "+c.of("<", "<=", ">", ">=")+" ("+sub("i64")+")",
			"("+sub(same)+") "+c.of("==", "!=")+" ("+sub(same)+")",
			"("+sub("bool")+") && ("+sub("bool")+")", "("+sub("bool")+") || ("+sub("bool")+")")
	case is == "bool":
		return c.of("true", "false")
	case strings.HasPrefix(is, "Box<"):
		return "box(" + sub(inner) + ")"
	case points:
		l := c.lendable(is)
		return "(" + strings.TrimSuffix(is, inner) + l[c.Intn(len(l))].text + ")"
	}
	var l []string
	for _, i := range c.Perm(len(chanceFields[is])) {
		f := chanceFields[is][i]
		l = append(l, f.name+": "+c.expression(f.is, deep-1))
	}
	return is + " { " + strings.Join(l, ", ") + " }"
}
