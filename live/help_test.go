package live_test

import (
	"fmt"
	"slices"
	"strconv"
	"strings"
	"testing"

	"loanword/api"
	"loanword/bits"
	"loanword/graph"
	"loanword/live"
	"loanword/lower"
	"loanword/parse"
	"loanword/place"
	"loanword/types"
	"loanword/typing"
)

func must(ok bool, what string) {
	if !ok {
		panic("no text of a test: " + what)
	}
}

func numberOf(s string) int {
	n, err := strconv.Atoi(s)
	must(err == nil, s)
	return n
}

// typeOf is the type of a text of layer 6.
func typeOf(s string) api.Type {
	x, _, e := types.Read(s)
	must(e == api.OK, s)
	return x
}

// placeOf is the place of a text of layer 9.
func placeOf(s string) api.Place {
	p, e := place.Read(s)
	must(e == api.OK, s)
	return p
}

// operandOf is the operand of a text of layer 10.
func operandOf(s string) api.Operand {
	word, rest, _ := strings.Cut(s, " ")
	switch word {
	case "copy":
		return api.Operand{Kind: api.Copy, Place: placeOf(rest)}
	case "move":
		return api.Operand{Kind: api.Move, Place: placeOf(rest)}
	case "true":
		return api.Operand{Kind: api.ConstBool, N: 1}
	case "false":
		return api.Operand{Kind: api.ConstBool}
	}
	return api.Operand{Kind: api.ConstInt, N: int64(numberOf(s))}
}

// pointOf is the point at q of a text of layer 10; where that says of no Next, it is q + 1 (of a Branch and a Goto, too).
func pointOf(s string, q int) api.Point {
	text, on, _ := strings.Cut(s, " -> ")
	var p api.Point
	if to, what, ok := strings.Cut(text, " = "); ok {
		p = assignmentOf(what)
		p.To = placeOf(to)
	} else {
		p = otherOf(text)
	}
	if p.Op == api.Return {
		return p
	}
	p.Next = q + 1
	if next, other, ok := strings.Cut(on, " else "); ok {
		p.Next, p.Else = numberOf(next), numberOf(other)
	} else if on != "" {
		p.Next = numberOf(on)
	}
	if p.Op == api.Branch && !strings.Contains(on, "else") {
		p.Else = p.Next
	}
	return p
}

// otherOf is a point that assigns nothing.
func otherOf(text string) api.Point {
	word, rest, _ := strings.Cut(text, " ")
	switch word {
	case "return":
		return api.Point{Op: api.Return}
	case "goto":
		return api.Point{Op: api.Goto}
	case "if":
		return api.Point{Op: api.Branch, A: operandOf(rest)}
	case "print":
		return api.Point{Op: api.Print, A: operandOf(rest)}
	case "drop":
		return api.Point{Op: api.Drop, From: placeOf(rest)}
	}
	must(word == "dead", text)
	return api.Point{Op: api.Dead, From: placeOf(rest)}
}

// assignmentOf is a point that assigns what the text says.
func assignmentOf(text string) api.Point {
	word, rest, _ := strings.Cut(text, " ")
	switch {
	case text == "read":
		return api.Point{Op: api.Read}
	case word == "box":
		return api.Point{Op: api.Box, A: operandOf(rest)}
	case word == "&" || word == "&mut":
		return api.Point{Op: api.Borrow, From: placeOf(rest), Mut: word == "&mut"}
	case word == "-" || word == "!":
		return api.Point{Op: api.Unary, Sign: word, A: operandOf(rest)}
	case text[0] == '#':
		n, l := listOf(text[1:])
		return api.Point{Op: api.Make, Struct: n, Args: l}
	case text[0] == 'f' && text != "false":
		n, l := listOf(text[1:])
		return api.Point{Op: api.Call, Fn: n, Args: l}
	}
	for _, sign := range []string{"+", "-", "*", "/", "%", "==", "!=", "<", "<=", ">", ">="} {
		if a, b, ok := strings.Cut(text, " "+sign+" "); ok {
			return api.Point{Op: api.Binary, Sign: sign, A: operandOf(a), B: operandOf(b)}
		}
	}
	return api.Point{Op: api.Use, A: operandOf(text)}
}

// listOf is a number, and the operands in brackets behind it.
func listOf(text string) (n int, l []api.Operand) {
	number, rest, ok := strings.Cut(strings.TrimSuffix(text, ")"), "(")
	must(ok, text)
	for _, s := range strings.Split(rest, ", ") {
		if s != "" {
			l = append(l, operandOf(s))
		}
	}
	return numberOf(number), l
}

// graphOf is a graph with so many lifetimes and parameters, locals of these types and points of these texts, all with "; " between them.
func graphOf(lives, params int, locals, points string) api.Graph {
	g := api.Graph{Lives: lives, Params: params}
	for _, s := range strings.Split(locals, "; ") {
		g.Locals = append(g.Locals, typeOf(s))
		g.Names = append(g.Names, "")
	}
	for q, s := range strings.Split(points, "; ") {
		g.Points = append(g.Points, pointOf(s, q))
	}
	return g
}

// structOf is a struct of fields of these types.
func structOf(l ...string) api.Struct {
	var s api.Struct
	for _, f := range l {
		s.Fields = append(s.Fields, api.Field{Type: typeOf(f)})
	}
	return s
}

// unitOf is a unit of one graph.
func unitOf(locals, points string) api.Unit {
	return api.Unit{Fns: []api.Graph{graphOf(0, 0, locals, points)}}
}

// lowered are the graphs of a program.
func lowered(t *testing.T, text string) api.Unit {
	t.Helper()
	f, at, e := parse.File(text)
	if e != api.OK {
		t.Fatalf("%q: at %d, %v", text, at, e)
	}
	x, n, e := typing.Of(f)
	if e != api.OK {
		t.Fatalf("%q: node %d, %v", text, n, e)
	}
	u, fn, e := lower.Unit(x)
	if e != api.OK {
		t.Fatalf("%q: function %d, %v", text, fn, e)
	}
	return u
}

// textOf are the points' texts, of a great graph the first ones.
func textOf(u api.Unit, fn int) string {
	l, e := graph.Lines(u, fn)
	return fmt.Sprintf("%.600s %v", strings.Join(l, "; "), e)
}

// rowOf is a row of that width with these bits.
func rowOf(width int, l ...int) api.Row {
	r, e := bits.New(width)
	must(e == api.OK, "a row's width")
	r, e = bits.Set(r, l...)
	must(e == api.OK, "a row's bits")
	return r
}

// full is a row of that width with all bits.
func full(width int) api.Row { return rowOf(width, count(0, width)...) }

// count are the numbers from one to another, this one not among them.
func count(from, to int) []int {
	var l []int
	for q := from; q < to; q++ {
		l = append(l, q)
	}
	return l
}

// listsOf are the bits of rows.
func listsOf(rows []api.Row) [][]int {
	var l [][]int
	for _, r := range rows {
		l = append(l, slices.Collect(bits.Each(r)))
	}
	return l
}

// mustMay asks that a unit may be: what is refused of it is then refused for what is wrong elsewhere.
func mustMay(t *testing.T, u api.Unit) {
	t.Helper()
	if fn, q, e := graph.Check(u); e != api.OK {
		t.Fatalf("function %d, point %d: %v: %.900s", fn, q, e, fmt.Sprintf("%+v", u))
	}
}

// mustOf asks that Of tells rows with these points, which may be and are as wide as the graph has points.
func mustOf(t *testing.T, u api.Unit, fn int, want ...[]int) []api.Row {
	t.Helper()
	rows, e := live.Of(u, fn)
	if e != api.OK || len(rows) != len(want) {
		t.Fatalf("%s: Of: %d rows, %v; want %d", textOf(u, fn), len(rows), e, len(want))
	}
	for local, r := range rows {
		if l := slices.Collect(bits.Each(r)); !bits.May(r) || r.Width != len(u.Fns[fn].Points) || !slices.Equal(l, want[local]) {
			t.Fatalf("%s: Of, local %d: width %d, %.300s; want %.300s", textOf(u, fn), local, r.Width, fmt.Sprint(l), fmt.Sprint(want[local]))
		}
	}
	return rows
}

// mustAt asks which locals are live at a point.
func mustAt(t *testing.T, u api.Unit, fn, q int, want ...int) {
	t.Helper()
	if l, e := live.At(u, fn, q); e != api.OK || !slices.Equal(l, want) {
		t.Fatalf("%s: At(%d): %.300s, %v; want %.300s", textOf(u, fn), q, fmt.Sprint(l), e, fmt.Sprint(want))
	}
}

// mustUse asks which locals a point uses.
func mustUse(t *testing.T, u api.Unit, fn, q int, want ...int) {
	t.Helper()
	if l, e := live.Uses(u, fn, q); e != api.OK || !slices.Equal(l, want) {
		t.Fatalf("%s: Uses(%d): %v, %v; want %v", textOf(u, fn), q, l, e, want)
	}
}

// mustEnd asks which local ends at a point; -1: none.
func mustEnd(t *testing.T, u api.Unit, fn, q, want int) {
	t.Helper()
	if local, ok, e := live.Ends(u, fn, q); e != api.OK || ok != (want >= 0) || local != max(want, 0) {
		t.Fatalf("%s: Ends(%d): %d, %v, %v; want %d", textOf(u, fn), q, local, ok, e, want)
	}
}

// mustWhy asks for a way; for none, if want is empty.
func mustWhy(t *testing.T, u api.Unit, fn, local, q int, want ...int) {
	t.Helper()
	way, ok, e := live.Why(u, fn, local, q)
	if e != api.OK || ok != (len(want) > 0) || !slices.Equal(way, want) {
		t.Fatalf("%s: Why(%d, %d): %.300s, %v, %v; want %.300s", textOf(u, fn), local, q, fmt.Sprint(way), ok, e, fmt.Sprint(want))
	}
}

// mustClosed asks whether rows are closed; if not, where.
func mustClosed(t *testing.T, u api.Unit, fn int, rows []api.Row, local, at int, is bool) {
	t.Helper()
	if x, q, ok, e := live.Closed(u, fn, rows); x != local || q != at || ok != is || e != api.OK {
		t.Fatalf("%s: Closed(%.300s): %d, %d, %v, %v; want %d, %d, %v", textOf(u, fn), fmt.Sprint(listsOf(rows)), x, q, ok, e, local, at, is)
	}
}
