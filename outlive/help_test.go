package outlive_test

import (
	"fmt"
	"slices"
	"strconv"
	"strings"
	"testing"

	"loanword/api"
	"loanword/bits"
	"loanword/graph"
	"loanword/lower"
	"loanword/outlive"
	"loanword/parse"
	"loanword/place"
	"loanword/types"
	"loanword/typing"
)

func must(ok bool, what string) {
	if !ok {
		panic("no text of a test: " + what)
	}
}

func numberOf(s string) int {
	n, err := strconv.Atoi(s)
	must(err == nil, s)
	return n
}

// typeOf is the type of a text of layer 6.
func typeOf(s string) api.Type {
	x, _, e := types.Read(s)
	must(e == api.OK, s)
	return x
}

// placeOf is the place of a text of layer 9.
func placeOf(s string) api.Place {
	p, e := place.Read(s)
	must(e == api.OK, s)
	return p
}

// operandOf is the operand of a text of layer 10.
func operandOf(s string) api.Operand {
	word, rest, _ := strings.Cut(s, " ")
	switch word {
	case "copy":
		return api.Operand{Kind: api.Copy, Place: placeOf(rest)}
	case "move":
		return api.Operand{Kind: api.Move, Place: placeOf(rest)}
	case "true":
		return api.Operand{Kind: api.ConstBool, N: 1}
	case "false":
		return api.Operand{Kind: api.ConstBool}
	}
	return api.Operand{Kind: api.ConstInt, N: int64(numberOf(s))}
}

// pointOf is the point at q of a text of layer 10, which goes on to q + 1.
func pointOf(s string, q int) api.Point {
	var p api.Point
	if to, what, ok := strings.Cut(s, " = "); ok {
		p = assignmentOf(what)
		p.To = placeOf(to)
	} else {
		p = otherOf(s)
	}
	if p.Op != api.Return {
		p.Next = q + 1
	}
	if p.Op == api.Branch {
		p.Else = q + 1
	}
	return p
}

// otherOf is a point that assigns nothing.
func otherOf(text string) api.Point {
	word, rest, _ := strings.Cut(text, " ")
	switch word {
	case "return":
		return api.Point{Op: api.Return}
	case "goto":
		return api.Point{Op: api.Goto}
	case "if":
		return api.Point{Op: api.Branch, A: operandOf(rest)}
	case "print":
		return api.Point{Op: api.Print, A: operandOf(rest)}
	case "drop":
		return api.Point{Op: api.Drop, From: placeOf(rest)}
	}
	must(word == "dead", text)
	return api.Point{Op: api.Dead, From: placeOf(rest)}
}

// assignmentOf is a point that assigns what the text says.
func assignmentOf(text string) api.Point {
	word, rest, _ := strings.Cut(text, " ")
	switch {
	case text == "read":
		return api.Point{Op: api.Read}
	case word == "box":
		return api.Point{Op: api.Box, A: operandOf(rest)}
	case word == "&" || word == "&mut":
		return api.Point{Op: api.Borrow, From: placeOf(rest), Mut: word == "&mut"}
	case word == "-" || word == "!":
		return api.Point{Op: api.Unary, Sign: word, A: operandOf(rest)}
	case text[0] == '#':
		n, l := listOf(text[1:])
		return api.Point{Op: api.Make, Struct: n, Args: l}
	case text[0] == 'f' && text != "false":
		n, l := listOf(text[1:])
		return api.Point{Op: api.Call, Fn: n, Args: l}
	}
	for _, sign := range []string{"+", "==", "<"} {
		if a, b, ok := strings.Cut(text, " "+sign+" "); ok {
			return api.Point{Op: api.Binary, Sign: sign, A: operandOf(a), B: operandOf(b)}
		}
	}
	return api.Point{Op: api.Use, A: operandOf(text)}
}

// listOf is a number, and the operands in brackets behind it.
func listOf(text string) (n int, l []api.Operand) {
	number, rest, ok := strings.Cut(strings.TrimSuffix(text, ")"), "(")
	must(ok, text)
	for _, s := range strings.Split(rest, ", ") {
		if s != "" {
			l = append(l, operandOf(s))
		}
	}
	return numberOf(number), l
}

// graphOf is a graph with so many lifetimes and parameters, locals of these types and points of these texts, all with "; " between them.
func graphOf(lives, params int, locals, points string) api.Graph {
	g := api.Graph{Lives: lives, Params: params}
	for _, s := range strings.Split(locals, "; ") {
		g.Locals = append(g.Locals, typeOf(s))
		g.Names = append(g.Names, "")
	}
	for q, s := range strings.Split(points, "; ") {
		g.Points = append(g.Points, pointOf(s, q))
	}
	return g
}

// outlives lays what outlives what into a graph: "0:1 0:2" says that 0 outlives 1 and 2.
func outlives(g api.Graph, s string) api.Graph {
	for _, c := range listed(s) {
		g.Outlives = append(g.Outlives, api.Outlives{Long: c.Long, Short: c.Short})
	}
	return g
}

// structOf is a struct of fields of these types.
func structOf(l ...string) api.Struct {
	var s api.Struct
	for _, f := range l {
		s.Fields = append(s.Fields, api.Field{Type: typeOf(f)})
	}
	return s
}

var structs = []api.Struct{structOf("i64", "Box<i64>"), structOf("#0", "Box<#1>", "bool")}

// unitOf is a main, and these graphs: the first one is 1.
func unitOf(l ...api.Graph) api.Unit {
	return api.Unit{Structs: structs, Fns: append([]api.Graph{graphOf(0, 0, "i64", "return")}, l...)}
}

// lowered are the graphs of a program.
func lowered(t *testing.T, text string) api.Unit {
	t.Helper()
	f, at, e := parse.File(text)
	if e != api.OK {
		t.Fatalf("%q: at %d, %v", text, at, e)
	}
	x, n, e := typing.Of(f)
	if e != api.OK {
		t.Fatalf("%q: node %d, %v", text, n, e)
	}
	u, fn, e := lower.Unit(x)
	if e != api.OK {
		t.Fatalf("%q: function %d, %v", text, fn, e)
	}
	return u
}

// textOf are a graph's locals and points, of a great one the first ones.
func textOf(u api.Unit, fn int) string {
	l, e := graph.Lines(u, fn)
	s := ""
	for _, t := range u.Fns[fn].Locals {
		text, _ := types.Text(t)
		s += text + "; "
	}
	return fmt.Sprintf("%.300s | %.600s %v", s, strings.Join(l, "; "), e)
}

// listed are constraints: "1:2 3:4" is Long 1, Short 2, then Long 3, Short 4.
func listed(s string) []api.Constraint {
	var l []api.Constraint
	for _, c := range strings.Fields(s) {
		long, short, ok := strings.Cut(c, ":")
		must(ok, s)
		l = append(l, api.Constraint{Long: numberOf(long), Short: numberOf(short)})
	}
	return l
}

// said are constraints as a text.
func said(l []api.Constraint) string {
	var parts []string
	for _, c := range l {
		parts = append(parts, fmt.Sprintf("%d:%d", c.Long, c.Short))
	}
	return strings.Join(parts, " ")
}

// rowOf is a row of the bits that stand there as 1: "0100".
func rowOf(s string) api.Row {
	r, e := bits.New(len(s))
	must(e == api.OK, s)
	for k, c := range s {
		if c == '1' {
			r, _ = bits.Set(r, k)
		}
	}
	return r
}

// rowsOf are rows, with a blank between each two.
func rowsOf(s string) []api.Row {
	var rows []api.Row
	for _, f := range strings.Fields(s) {
		rows = append(rows, rowOf(f))
	}
	return rows
}

// mustMay asks that a unit may be: what is refused of it is then refused for what is wrong elsewhere.
func mustMay(t *testing.T, u api.Unit) {
	t.Helper()
	if fn, q, e := graph.Check(u); e != api.OK {
		t.Fatalf("function %d, point %d: %v: %.900s", fn, q, e, fmt.Sprintf("%+v", u))
	}
}

// mustAt asks for the constraints of a point.
func mustAt(t *testing.T, u api.Unit, fn, q int, want string) {
	t.Helper()
	if l, e := outlive.At(u, fn, q); e != api.OK || said(l) != want {
		t.Fatalf("%s: At(%d): %.400s, %v; want %.400s", textOf(u, fn), q, said(l), e, want)
	}
}

// mustOf asks for the constraints of a graph.
func mustOf(t *testing.T, u api.Unit, fn int, want string) []api.Constraint {
	t.Helper()
	l, e := outlive.Of(u, fn)
	if e != api.OK || said(l) != want {
		t.Fatalf("%s: Of: %.600s, %v; want %.600s", textOf(u, fn), said(l), e, want)
	}
	return l
}

// mustFlow asks for the constraints between two types' texts.
func mustFlow(t *testing.T, from, into, want string) {
	t.Helper()
	if l, e := outlive.Flows(typeOf(from), typeOf(into)); e != api.OK || said(l) != want {
		t.Fatalf("Flows(%s, %s): %s, %v; want %s", from, into, said(l), e, want)
	}
}

// mustNotFlow asks that Flows answers an error, and nothing beside it.
func mustNotFlow(t *testing.T, from, into api.Type, want api.Errno) {
	t.Helper()
	if l, e := outlive.Flows(from, into); e != want || len(l) != 0 {
		t.Fatalf("Flows(%+v, %+v): %s, %v; want %v", from, into, said(l), e, want)
	}
}

// mustClosed asks whether rows are closed; if not, which constraint and bit tell.
func mustClosed(t *testing.T, l []api.Constraint, rows []api.Row, which, bit int, is bool) {
	t.Helper()
	if x, k, ok, e := outlive.Closed(l, rows); x != which || k != bit || ok != is || e != api.OK {
		t.Fatalf("Closed(%.300s; %.300s): %d, %d, %v, %v; want %d, %d, %v", said(l), fmt.Sprintf("%x", rows), x, k, ok, e, which, bit, is)
	}
}

// mustNotClose asks that Closed answers ErrArg, and nothing beside it.
func mustNotClose(t *testing.T, what string, l []api.Constraint, rows []api.Row) {
	t.Helper()
	if x, k, ok, e := outlive.Closed(l, rows); x != 0 || k != 0 || ok || e != api.ErrArg {
		t.Fatalf("%s: Closed: %d, %d, %v, %v", what, x, k, ok, e)
	}
}

// mustFrom asks for regions.
func mustFrom(t *testing.T, l []api.Constraint, count, region int, want ...int) {
	t.Helper()
	if x, e := outlive.From(l, count, region); e != api.OK || !slices.Equal(x, want) {
		t.Fatalf("From(%.300s; %d, %d): %.300s, %v; want %.300s", said(l), count, region, fmt.Sprint(x), e, fmt.Sprint(want))
	}
}

// mustNotFrom asks that From answers ErrArg, and nothing beside it.
func mustNotFrom(t *testing.T, l []api.Constraint, count, region int) {
	t.Helper()
	if x, e := outlive.From(l, count, region); e != api.ErrArg || len(x) != 0 {
		t.Fatalf("From(%.300s; %d, %d): %v, %v", said(l), count, region, x, e)
	}
}
