package rules_test

import (
	"fmt"
	"slices"
	"strconv"
	"strings"
	"testing"

	"loanword/api"
	"loanword/bits"
	"loanword/graph"
	"loanword/loan"
	"loanword/lower"
	"loanword/move"
	"loanword/outlive"
	"loanword/parse"
	"loanword/place"
	"loanword/region"
	"loanword/rules"
	"loanword/types"
	"loanword/typing"
)

func must(ok bool, what string) {
	if !ok {
		panic("no text of a test: " + what)
	}
}

func numberOf(s string) int {
	n, err := strconv.Atoi(s)
	must(err == nil, s)
	return n
}

// typeOf is the type of a text of layer 6.
func typeOf(s string) api.Type {
	x, _, e := types.Read(s)
	must(e == api.OK, s)
	return x
}

// placeOf is the place of a text of layer 9.
func placeOf(s string) api.Place {
	p, e := place.Read(s)
	must(e == api.OK, s)
	return p
}

// operandOf is the operand of a text of layer 10.
func operandOf(s string) api.Operand {
	word, rest, _ := strings.Cut(s, " ")
	switch word {
	case "copy":
		return api.Operand{Kind: api.Copy, Place: placeOf(rest)}
	case "move":
		return api.Operand{Kind: api.Move, Place: placeOf(rest)}
	case "true":
		return api.Operand{Kind: api.ConstBool, N: 1}
	case "false":
		return api.Operand{Kind: api.ConstBool}
	}
	return api.Operand{Kind: api.ConstInt, N: int64(numberOf(s))}
}

// pointOf is the point at q of a text of layer 10; where that says of no Next, it is q + 1 (of a Branch and a Goto, too).
func pointOf(s string, q int) api.Point {
	text, on, _ := strings.Cut(s, " -> ")
	var p api.Point
	if to, what, ok := strings.Cut(text, " = "); ok {
		p = assignmentOf(what)
		p.To = placeOf(to)
	} else {
		p = otherOf(text)
	}
	if p.Op == api.Return {
		return p
	}
	p.Next = q + 1
	if next, other, ok := strings.Cut(on, " else "); ok {
		p.Next, p.Else = numberOf(next), numberOf(other)
	} else if on != "" {
		p.Next = numberOf(on)
	}
	if p.Op == api.Branch && !strings.Contains(on, "else") {
		p.Else = p.Next
	}
	return p
}

// otherOf is a point that assigns nothing.
func otherOf(text string) api.Point {
	word, rest, _ := strings.Cut(text, " ")
	switch word {
	case "return":
		return api.Point{Op: api.Return}
	case "goto":
		return api.Point{Op: api.Goto}
	case "if":
		return api.Point{Op: api.Branch, A: operandOf(rest)}
	case "print":
		return api.Point{Op: api.Print, A: operandOf(rest)}
	case "drop":
		return api.Point{Op: api.Drop, From: placeOf(rest)}
	}
	must(word == "dead", text)
	return api.Point{Op: api.Dead, From: placeOf(rest)}
}

// assignmentOf is a point that assigns what the text says.
func assignmentOf(text string) api.Point {
	word, rest, _ := strings.Cut(text, " ")
	switch {
	case text == "read":
		return api.Point{Op: api.Read}
	case word == "box":
		return api.Point{Op: api.Box, A: operandOf(rest)}
	case word == "&" || word == "&mut":
		return api.Point{Op: api.Borrow, From: placeOf(rest), Mut: word == "&mut"}
	case word == "-" || word == "!":
		return api.Point{Op: api.Unary, Sign: word, A: operandOf(rest)}
	case text[0] == '#':
		n, l := listOf(text[1:])
		return api.Point{Op: api.Make, Struct: n, Args: l}
	case text[0] == 'f' && text != "false":
		n, l := listOf(text[1:])
		return api.Point{Op: api.Call, Fn: n, Args: l}
	}
	for _, sign := range []string{"+", "-", "*", "/", "%", "==", "!=", "<", "<=", ">", ">="} {
		if a, b, ok := strings.Cut(text, " "+sign+" "); ok {
			return api.Point{Op: api.Binary, Sign: sign, A: operandOf(a), B: operandOf(b)}
		}
	}
	return api.Point{Op: api.Use, A: operandOf(text)}
}

// listOf is a number, and the operands in brackets behind it.
func listOf(text string) (n int, l []api.Operand) {
	number, rest, ok := strings.Cut(strings.TrimSuffix(text, ")"), "(")
	must(ok, text)
	for _, s := range strings.Split(rest, ", ") {
		if s != "" {
			l = append(l, operandOf(s))
		}
	}
	return numberOf(number), l
}

// graphOf is a graph with so many lifetimes and parameters, locals of these types and points of these texts, all with "; " between them.
func graphOf(lives, params int, locals, points string) api.Graph {
	g := api.Graph{Lives: lives, Params: params}
	for _, s := range strings.Split(locals, "; ") {
		g.Locals = append(g.Locals, typeOf(s))
		g.Names = append(g.Names, "")
	}
	for q, s := range strings.Split(points, "; ") {
		g.Points = append(g.Points, pointOf(s, q))
	}
	return g
}

// structOf is a struct of fields of these types.
func structOf(l ...string) api.Struct {
	var s api.Struct
	for _, f := range l {
		s.Fields = append(s.Fields, api.Field{Type: typeOf(f)})
	}
	return s
}

// outlives lays what outlives what into a graph: "0:1 0:2" says that 0 outlives 1 and 2.
func outlives(g api.Graph, s string) api.Graph {
	for _, c := range strings.Fields(s) {
		long, short, ok := strings.Cut(c, ":")
		must(ok, s)
		g.Outlives = append(g.Outlives, api.Outlives{Long: numberOf(long), Short: numberOf(short)})
	}
	return g
}

var structs = []api.Struct{structOf("i64", "Box<i64>"), structOf("#0", "Box<#1>", "bool"), structOf("i64", "bool"), structOf("#2", "i64")}

// unitOf is a main, and these graphs: the first one is 1.
func unitOf(l ...api.Graph) api.Unit {
	return api.Unit{Structs: structs, Fns: append([]api.Graph{graphOf(0, 0, "i64", "return")}, l...)}
}

// lowered are the graphs of a program.
func lowered(t *testing.T, text string) api.Unit {
	t.Helper()
	f, at, e := parse.File(text)
	if e != api.OK {
		t.Fatalf("%q: at %d, %v", text, at, e)
	}
	x, n, e := typing.Of(f)
	if e != api.OK {
		t.Fatalf("%q: node %d, %v", text, n, e)
	}
	u, fn, e := lower.Unit(x)
	if e != api.OK {
		t.Fatalf("%q: function %d, %v", text, fn, e)
	}
	return u
}

// textOf are a graph's locals and points, of a great one the first ones.
func textOf(u api.Unit, fn int) string {
	l, e := graph.Lines(u, fn)
	s := ""
	for _, t := range u.Fns[fn].Locals {
		text, _ := types.Text(t)
		s += text + "; "
	}
	return fmt.Sprintf("%.300s | %.600s %v", s, strings.Join(l, "; "), e)
}

// rowOf is a row of that width with these bits.
func rowOf(width int, l ...int) api.Row {
	r, e := bits.New(width)
	must(e == api.OK, "a row's width")
	r, e = bits.Set(r, l...)
	must(e == api.OK, "a row's bits")
	return r
}

// full is a row of that width with all bits.
func full(width int) api.Row { return rowOf(width, count(0, width)...) }

// count are the numbers from one to another, this one not among them.
func count(from, to int) []int {
	var l []int
	for q := from; q < to; q++ {
		l = append(l, q)
	}
	return l
}

// listsOf are the bits of rows.
func listsOf(rows []api.Row) [][]int {
	var l [][]int
	for _, r := range rows {
		l = append(l, slices.Collect(bits.Each(r)))
	}
	return l
}

// mustMay asks that a unit may be: what is refused of it is then refused for what is wrong elsewhere.
func mustMay(t *testing.T, u api.Unit) {
	t.Helper()
	if fn, q, e := graph.Check(u); e != api.OK {
		t.Fatalf("function %d, point %d: %v: %.900s", fn, q, e, fmt.Sprintf("%+v", u))
	}
}

// regionsOf are a graph's regions.
func regionsOf(t *testing.T, u api.Unit, fn int) api.Regions {
	t.Helper()
	r, e := region.Of(u, fn)
	if e != api.OK {
		t.Fatalf("%s: %v", textOf(u, fn), e)
	}
	return r
}

// size says how many rows of each kind a graph has, and how wide they are.
type size struct{ regions, width, loans, paths, points int }

func sizeOf(t *testing.T, u api.Unit, fn int) size {
	t.Helper()
	r := regionsOf(t, u, fn)
	loans, e := loan.Of(u, fn)
	paths, f := move.Paths(u, fn)
	if e != api.OK || f != api.OK {
		t.Fatalf("%s: %v, %v", textOf(u, fn), e, f)
	}
	return size{r.Count, region.Width(r), len(loans), len(paths), r.Points}
}

// empty are rows of a graph's size without bits.
func empty(t *testing.T, u api.Unit, fn int) api.FnCert {
	t.Helper()
	s := sizeOf(t, u, fn)
	return own(api.FnCert{Rows: slices.Repeat([]api.Row{rowOf(s.width)}, s.regions), Ranges: slices.Repeat([]api.Row{rowOf(s.points)}, s.loans), Moves: slices.Repeat([]api.Row{rowOf(s.points)}, s.paths)})
}

// whole are rows of a graph's size with all bits.
func whole(t *testing.T, u api.Unit, fn int) api.FnCert {
	t.Helper()
	s := sizeOf(t, u, fn)
	return own(api.FnCert{Rows: slices.Repeat([]api.Row{full(s.width)}, s.regions), Ranges: slices.Repeat([]api.Row{full(s.points)}, s.loans), Moves: slices.Repeat([]api.Row{full(s.points)}, s.paths)})
}

// certOf are rows of a graph's size with these bits: "0 1; ; 2" are those of three rows; of nothing all rows are without bits.
func certOf(t *testing.T, u api.Unit, fn int, rows, ranges, moves string) api.FnCert {
	t.Helper()
	c := empty(t, u, fn)
	fill := func(rows []api.Row, text string) {
		if text == "" {
			return
		}
		parts := strings.Split(text, ";")
		must(len(parts) == len(rows), text)
		for k, part := range parts {
			for _, word := range strings.Fields(part) {
				must(numberOf(word) < rows[k].Width, text)
				rows[k].Words[numberOf(word)/64] |= 1 << (numberOf(word) % 64)
			}
		}
	}
	fill(c.Rows, rows)
	fill(c.Ranges, ranges)
	fill(c.Moves, moves)
	return c
}

// own are the same rows in memory of their own.
func own(c api.FnCert) api.FnCert {
	each := func(rows []api.Row) []api.Row {
		var l []api.Row
		for _, r := range rows {
			l = append(l, api.Row{Width: r.Width, Words: slices.Clone(r.Words)})
		}
		return l
	}
	return api.FnCert{Rows: each(c.Rows), Ranges: each(c.Ranges), Moves: each(c.Moves)}
}

// written are rows as a text.
func written(c api.FnCert) string {
	return fmt.Sprintf("rows %.300s, ranges %.300s, moves %.300s", fmt.Sprint(listsOf(c.Rows)), fmt.Sprint(listsOf(c.Ranges)), fmt.Sprint(listsOf(c.Moves)))
}

var names = map[api.Rule]string{api.RuleSize: "size", api.RuleLive: "live", api.RuleFlow: "flow", api.RuleOwn: "own", api.RuleEnd: "end", api.RuleRange: "range", api.RuleMoved: "moved", api.RuleBreak: "break", api.RuleUse: "use"}

// said is what is broken as a text: "live 1 2, use 0 3".
func said(l ...api.Broken) string {
	var parts []string
	for _, b := range l {
		parts = append(parts, fmt.Sprint(names[b.Rule], " ", b.What, " ", b.At))
	}
	return strings.Join(parts, ", ")
}

// brokenOf is all that is broken in a graph's rows.
func brokenOf(t *testing.T, u api.Unit, fn int, c api.FnCert) []api.Broken {
	t.Helper()
	l, e := rules.Broken(u, fn, c)
	if e != api.OK {
		t.Fatalf("%s: %v", textOf(u, fn), e)
	}
	for _, b := range l {
		if b.Fn != fn {
			t.Fatalf("%s: function %d of %v", textOf(u, fn), fn, b)
		}
	}
	return l
}

// mustTell asks for all that is broken in a graph's rows, and asks all calls that tell some of it.
func mustTell(t *testing.T, u api.Unit, fn int, c api.FnCert, want string) {
	t.Helper()
	l := mustTellAll(t, u, fn, c, want)
	for _, r := range []api.Rule{api.NoRule, api.RuleSize, api.RuleLive, api.RuleFlow, api.RuleOwn, api.RuleEnd, api.RuleRange, api.RuleMoved, api.RuleBreak, api.RuleUse, api.RuleUse + 1, 255} {
		of, e := rules.Rule(u, fn, c, r)
		part := slices.DeleteFunc(slices.Clone(l), func(b api.Broken) bool { return b.Rule != r })
		if e != api.OK || !slices.Equal(of, part) {
			t.Fatalf("%s: %s: Rule %d: %.600s, %v; want %.600s", textOf(u, fn), written(c), r, said(of...), e, said(part...))
		}
	}
}

// mustTellAll asks for all that is broken in a graph's rows, and for the first of it.
func mustTellAll(t *testing.T, u api.Unit, fn int, c api.FnCert, want string) []api.Broken {
	t.Helper()
	l := brokenOf(t, u, fn, c)
	if said(l...) != want {
		t.Fatalf("%s: %s: Broken: %.600s; want %.600s", textOf(u, fn), written(c), said(l...), want)
	}
	mustTellFirst(t, u, fn, c, l)
	return l
}

// mustTellFirst asks for what is first broken, of all that is.
func mustTellFirst(t *testing.T, u api.Unit, fn int, c api.FnCert, l []api.Broken) {
	t.Helper()
	var want api.Broken
	if len(l) > 0 {
		want = l[0]
	}
	if b, kept, e := rules.First(u, fn, c); b != want || kept != (len(l) == 0) || e != api.OK {
		t.Fatalf("%s: %s: First: %v, %v, %v; want %v", textOf(u, fn), written(c), b, kept, e, want)
	}
}

// mustKeep asks whether there are rows of a graph in which nothing is broken.
func mustKeep(t *testing.T, u api.Unit, fn int, want bool) {
	t.Helper()
	if is, e := rules.Keeps(u, fn); is != want || e != api.OK {
		t.Fatalf("%s: Keeps: %v, %v; want %v", textOf(u, fn), is, e, want)
	}
}

// mustKeepAll asks whether a program keeps the rules; if fn is below 0, it must.
func mustKeepAll(t *testing.T, u api.Unit, fn int) {
	t.Helper()
	if n, kept, e := rules.Program(u); n != max(fn, 0) || kept != (fn < 0) || e != api.OK {
		t.Fatalf("Program: %d, %v, %v; want %d", n, kept, e, fn)
	}
}

// mended are rows in which, again and again, what is said to be wanting is put in: of a constraint one bit, of a lifetime one bit.
func mended(t *testing.T, u api.Unit, fn int, c api.FnCert, broken func(c api.FnCert) []api.Broken) api.FnCert {
	t.Helper()
	c = own(c)
	l, e := outlive.Of(u, fn)
	if e != api.OK {
		t.Fatal(e)
	}
	row := map[api.Rule]func(what int) api.Row{
		api.RuleLive: func(what int) api.Row { return c.Rows[what] }, api.RuleOwn: func(what int) api.Row { return c.Rows[what] }, api.RuleFlow: func(what int) api.Row { return c.Rows[l[what].Long] },
		api.RuleRange: func(what int) api.Row { return c.Ranges[what] }, api.RuleMoved: func(what int) api.Row { return c.Moves[what] },
	}
	for {
		wanting := false
		for _, b := range broken(c) {
			if of, is := row[b.Rule]; is {
				of(b.What).Words[b.At/64] |= 1 << (b.At % 64)
				wanting = true
			}
		}
		if !wanting {
			return c
		}
	}
}

// leastOf are the least rows of a graph in which nothing is wanting.
func leastOf(t *testing.T, u api.Unit, fn int) api.FnCert {
	t.Helper()
	return mended(t, u, fn, empty(t, u, fn), func(c api.FnCert) []api.Broken { return brokenOf(t, u, fn, c) })
}
