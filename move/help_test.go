package move_test

import (
	"fmt"
	"slices"
	"strconv"
	"strings"
	"testing"

	"loanword/api"
	"loanword/graph"
	"loanword/lower"
	"loanword/move"
	"loanword/parse"
	"loanword/place"
	"loanword/types"
	"loanword/typing"
)

func must(ok bool, what string) {
	if !ok {
		panic("no text of a test: " + what)
	}
}

func numberOf(s string) int {
	n, err := strconv.Atoi(s)
	must(err == nil, s)
	return n
}

// typeOf is the type of a text of layer 6.
func typeOf(s string) api.Type {
	x, _, e := types.Read(s)
	must(e == api.OK, s)
	return x
}

// placeOf is the place of a text of layer 9.
func placeOf(s string) api.Place {
	p, e := place.Read(s)
	must(e == api.OK, s)
	return p
}

// operandOf is the operand of a text of layer 10.
func operandOf(s string) api.Operand {
	word, rest, _ := strings.Cut(s, " ")
	switch word {
	case "copy":
		return api.Operand{Kind: api.Copy, Place: placeOf(rest)}
	case "move":
		return api.Operand{Kind: api.Move, Place: placeOf(rest)}
	case "true":
		return api.Operand{Kind: api.ConstBool, N: 1}
	case "false":
		return api.Operand{Kind: api.ConstBool}
	}
	return api.Operand{Kind: api.ConstInt, N: int64(numberOf(s))}
}

// pointOf is the point at q of a text of layer 10; where that says of no Next, it is q + 1 (of a Branch and a Goto, too).
func pointOf(s string, q int) api.Point {
	text, on, _ := strings.Cut(s, " -> ")
	var p api.Point
	if to, what, ok := strings.Cut(text, " = "); ok {
		p = assignmentOf(what)
		p.To = placeOf(to)
	} else {
		p = otherOf(text)
	}
	if p.Op == api.Return {
		return p
	}
	p.Next = q + 1
	if next, other, ok := strings.Cut(on, " else "); ok {
		p.Next, p.Else = numberOf(next), numberOf(other)
	} else if on != "" {
		p.Next = numberOf(on)
	}
	if p.Op == api.Branch && !strings.Contains(on, "else") {
		p.Else = p.Next
	}
	return p
}

// otherOf is a point that assigns nothing.
func otherOf(text string) api.Point {
	word, rest, _ := strings.Cut(text, " ")
	switch word {
	case "return":
		return api.Point{Op: api.Return}
	case "goto":
		return api.Point{Op: api.Goto}
	case "if":
		return api.Point{Op: api.Branch, A: operandOf(rest)}
	case "print":
		return api.Point{Op: api.Print, A: operandOf(rest)}
	case "drop":
		return api.Point{Op: api.Drop, From: placeOf(rest)}
	}
	must(word == "dead", text)
	return api.Point{Op: api.Dead, From: placeOf(rest)}
}

// assignmentOf is a point that assigns what the text says.
func assignmentOf(text string) api.Point {
	word, rest, _ := strings.Cut(text, " ")
	switch {
	case text == "read":
		return api.Point{Op: api.Read}
	case word == "box":
		return api.Point{Op: api.Box, A: operandOf(rest)}
	case word == "&" || word == "&mut":
		return api.Point{Op: api.Borrow, From: placeOf(rest), Mut: word == "&mut"}
	case word == "-" || word == "!":
		return api.Point{Op: api.Unary, Sign: word, A: operandOf(rest)}
	case text[0] == '#':
		n, l := listOf(text[1:])
		return api.Point{Op: api.Make, Struct: n, Args: l}
	case text[0] == 'f' && text != "false":
		n, l := listOf(text[1:])
		return api.Point{Op: api.Call, Fn: n, Args: l}
	}
	for _, sign := range []string{"+", "-", "*", "/", "%", "==", "!=", "<", "<=", ">", ">="} {
		if a, b, ok := strings.Cut(text, " "+sign+" "); ok {
			return api.Point{Op: api.Binary, Sign: sign, A: operandOf(a), B: operandOf(b)}
		}
	}
	return api.Point{Op: api.Use, A: operandOf(text)}
}

// listOf is a number, and the operands in brackets behind it.
func listOf(text string) (n int, l []api.Operand) {
	number, rest, ok := strings.Cut(strings.TrimSuffix(text, ")"), "(")
	must(ok, text)
	for _, s := range strings.Split(rest, ", ") {
		if s != "" {
			l = append(l, operandOf(s))
		}
	}
	return numberOf(number), l
}

// graphOf is a graph with so many lifetimes and parameters, locals of these types and points of these texts, all with "; " between them.
func graphOf(lives, params int, locals, points string) api.Graph {
	g := api.Graph{Lives: lives, Params: params}
	for _, s := range strings.Split(locals, "; ") {
		g.Locals = append(g.Locals, typeOf(s))
		g.Names = append(g.Names, "")
	}
	for q, s := range strings.Split(points, "; ") {
		g.Points = append(g.Points, pointOf(s, q))
	}
	return g
}

// structOf is a struct of fields of these types.
func structOf(l ...string) api.Struct {
	var s api.Struct
	for _, f := range l {
		s.Fields = append(s.Fields, api.Field{Type: typeOf(f)})
	}
	return s
}

// outlives lays what outlives what into a graph: "0:1 0:2" says that 0 outlives 1 and 2.
func outlives(g api.Graph, s string) api.Graph {
	for _, c := range strings.Fields(s) {
		long, short, ok := strings.Cut(c, ":")
		must(ok, s)
		g.Outlives = append(g.Outlives, api.Outlives{Long: numberOf(long), Short: numberOf(short)})
	}
	return g
}

var structs = []api.Struct{structOf("i64", "Box<i64>"), structOf("#0", "Box<#1>", "bool"), structOf("i64", "bool"), structOf("#2", "i64")}

// unitOf is a main, and these graphs: the first one is 1.
func unitOf(l ...api.Graph) api.Unit {
	return api.Unit{Structs: structs, Fns: append([]api.Graph{graphOf(0, 0, "i64", "return")}, l...)}
}

// lowered are the graphs of a program.
func lowered(t *testing.T, text string) api.Unit {
	t.Helper()
	f, at, e := parse.File(text)
	if e != api.OK {
		t.Fatalf("%q: at %d, %v", text, at, e)
	}
	x, n, e := typing.Of(f)
	if e != api.OK {
		t.Fatalf("%q: node %d, %v", text, n, e)
	}
	u, fn, e := lower.Unit(x)
	if e != api.OK {
		t.Fatalf("%q: function %d, %v", text, fn, e)
	}
	return u
}

// textOf are a graph's locals and points, of a great one the first ones.
func textOf(u api.Unit, fn int) string {
	l, e := graph.Lines(u, fn)
	s := ""
	for _, t := range u.Fns[fn].Locals {
		text, _ := types.Text(t)
		s += text + "; "
	}
	return fmt.Sprintf("%.300s | %.600s %v", s, strings.Join(l, "; "), e)
}

// count are the numbers from one to another, this one not among them.
func count(from, to int) []int {
	var l []int
	for q := from; q < to; q++ {
		l = append(l, q)
	}
	return l
}

// mustMay asks that a unit may be: what is refused of it is then refused for what is wrong elsewhere.
func mustMay(t *testing.T, u api.Unit) {
	t.Helper()
	if fn, q, e := graph.Check(u); e != api.OK {
		t.Fatalf("function %d, point %d: %v: %.900s", fn, q, e, fmt.Sprintf("%+v", u))
	}
}

// said are places as a text.
func said(l []api.Place) string {
	var parts []string
	for _, p := range l {
		parts = append(parts, place.Text(p))
	}
	return strings.Join(parts, " ")
}

// pathsOf are a graph's move paths as texts.
func pathsOf(t *testing.T, u api.Unit, fn int) []string {
	t.Helper()
	l, e := move.Paths(u, fn)
	if e != api.OK {
		t.Fatalf("%s: %v", textOf(u, fn), e)
	}
	return strings.Fields(said(l))
}

// numbers are those of paths of these texts, with a blank between each two, rising; "_1+" is all that is below _1.
func numbers(paths []string, s string) []int {
	var l []int
	for _, text := range strings.Fields(s) {
		whole, all := strings.CutSuffix(text, "+")
		must(slices.Contains(paths, whole), text+" is no path")
		for n, p := range paths {
			if p == whole || all && strings.HasPrefix(p, whole+".") {
				l = append(l, n)
			}
		}
	}
	slices.Sort(l)
	return slices.Compact(l)
}

// mustPaths asks for a graph's move paths, and for the number of each.
func mustPaths(t *testing.T, u api.Unit, fn int, want string) {
	t.Helper()
	l, e := move.Paths(u, fn)
	if e != api.OK || said(l) != want {
		t.Fatalf("%s: Paths: %.400s, %v; want %.400s", textOf(u, fn), said(l), e, want)
	}
	for n, p := range l {
		mustPath(t, u, fn, p, n)
	}
}

// mustPath asks for the number of the path of a place.
func mustPath(t *testing.T, u api.Unit, fn int, p api.Place, want int) {
	t.Helper()
	if n, e := move.Path(u, fn, p); n != want || e != api.OK {
		t.Fatalf("%s: Path(%s): %d, %v; want %d", textOf(u, fn), place.Text(p), n, e, want)
	}
}

// mustBelow asks what is below a path.
func mustBelow(t *testing.T, u api.Unit, fn, path int, want ...int) {
	t.Helper()
	if l, e := move.Below(u, fn, path); e != api.OK || !slices.Equal(l, want) {
		t.Fatalf("%s: Below(%d): %v, %v; want %v", textOf(u, fn), path, l, e, want)
	}
}

// mustStart asks which paths are without a value at the start.
func mustStart(t *testing.T, u api.Unit, fn int, want ...int) {
	t.Helper()
	if l, e := move.Start(u, fn); e != api.OK || !slices.Equal(l, want) {
		t.Fatalf("%s: Start: %v, %v; want %v", textOf(u, fn), l, e, want)
	}
}

// mustDo asks which paths a point takes the value of, and which it gives one.
func mustDo(t *testing.T, u api.Unit, fn, q int, gone, has []int) {
	t.Helper()
	if g, h, e := move.Does(u, fn, q); e != api.OK || !slices.Equal(g, gone) || !slices.Equal(h, has) {
		t.Fatalf("%s: Does(%d): %v, %v, %v; want %v, %v", textOf(u, fn), q, g, h, e, gone, has)
	}
}

// mustUse asks which paths a point uses.
func mustUse(t *testing.T, u api.Unit, fn, q int, want ...int) {
	t.Helper()
	if l, e := move.Uses(u, fn, q); e != api.OK || !slices.Equal(l, want) {
		t.Fatalf("%s: Uses(%d): %v, %v; want %v", textOf(u, fn), q, l, e, want)
	}
}

// mustAgain asks for the path that is used though it was moved at this very point; for none, if it is below 0.
func mustAgain(t *testing.T, u api.Unit, fn, q, want int) {
	t.Helper()
	if n, is, e := move.Again(u, fn, q); e != api.OK || is != (want >= 0) || n != max(want, 0) {
		t.Fatalf("%s: Again(%d): %d, %v, %v; want %d", textOf(u, fn), q, n, is, e, want)
	}
}

// mustBehind asks which paths are without a value behind a point.
func mustBehind(t *testing.T, u api.Unit, fn, q int, gone []int, want ...int) []int {
	t.Helper()
	l, e := move.Behind(u, fn, q, gone)
	if e != api.OK || !slices.Equal(l, want) {
		t.Fatalf("%s: Behind(%d, %v): %v, %v; want %v", textOf(u, fn), q, gone, l, e, want)
	}
	return l
}
