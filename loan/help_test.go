package loan_test

import (
	"fmt"
	"slices"
	"strconv"
	"strings"
	"testing"

	"loanword/api"
	"loanword/bits"
	"loanword/graph"
	"loanword/loan"
	"loanword/lower"
	"loanword/parse"
	"loanword/place"
	"loanword/region"
	"loanword/types"
	"loanword/typing"
)

func must(ok bool, what string) {
	if !ok {
		panic("no text of a test: " + what)
	}
}

func numberOf(s string) int {
	n, err := strconv.Atoi(s)
	must(err == nil, s)
	return n
}

// typeOf is the type of a text of layer 6.
func typeOf(s string) api.Type {
	x, _, e := types.Read(s)
	must(e == api.OK, s)
	return x
}

// placeOf is the place of a text of layer 9.
func placeOf(s string) api.Place {
	p, e := place.Read(s)
	must(e == api.OK, s)
	return p
}

// operandOf is the operand of a text of layer 10.
func operandOf(s string) api.Operand {
	word, rest, _ := strings.Cut(s, " ")
	switch word {
	case "copy":
		return api.Operand{Kind: api.Copy, Place: placeOf(rest)}
	case "move":
		return api.Operand{Kind: api.Move, Place: placeOf(rest)}
	case "true":
		return api.Operand{Kind: api.ConstBool, N: 1}
	case "false":
		return api.Operand{Kind: api.ConstBool}
	}
	return api.Operand{Kind: api.ConstInt, N: int64(numberOf(s))}
}

// pointOf is the point at q of a text of layer 10; where that says of no Next, it is q + 1 (of a Branch and a Goto, too).
func pointOf(s string, q int) api.Point {
	text, on, _ := strings.Cut(s, " -> ")
	var p api.Point
	if to, what, ok := strings.Cut(text, " = "); ok {
		p = assignmentOf(what)
		p.To = placeOf(to)
	} else {
		p = otherOf(text)
	}
	if p.Op == api.Return {
		return p
	}
	p.Next = q + 1
	if next, other, ok := strings.Cut(on, " else "); ok {
		p.Next, p.Else = numberOf(next), numberOf(other)
	} else if on != "" {
		p.Next = numberOf(on)
	}
	if p.Op == api.Branch && !strings.Contains(on, "else") {
		p.Else = p.Next
	}
	return p
}

// otherOf is a point that assigns nothing.
func otherOf(text string) api.Point {
	word, rest, _ := strings.Cut(text, " ")
	switch word {
	case "return":
		return api.Point{Op: api.Return}
	case "goto":
		return api.Point{Op: api.Goto}
	case "if":
		return api.Point{Op: api.Branch, A: operandOf(rest)}
	case "print":
		return api.Point{Op: api.Print, A: operandOf(rest)}
	case "drop":
		return api.Point{Op: api.Drop, From: placeOf(rest)}
	}
	must(word == "dead", text)
	return api.Point{Op: api.Dead, From: placeOf(rest)}
}

// assignmentOf is a point that assigns what the text says.
func assignmentOf(text string) api.Point {
	word, rest, _ := strings.Cut(text, " ")
	switch {
	case text == "read":
		return api.Point{Op: api.Read}
	case word == "box":
		return api.Point{Op: api.Box, A: operandOf(rest)}
	case word == "&" || word == "&mut":
		return api.Point{Op: api.Borrow, From: placeOf(rest), Mut: word == "&mut"}
	case word == "-" || word == "!":
		return api.Point{Op: api.Unary, Sign: word, A: operandOf(rest)}
	case text[0] == '#':
		n, l := listOf(text[1:])
		return api.Point{Op: api.Make, Struct: n, Args: l}
	case text[0] == 'f' && text != "false":
		n, l := listOf(text[1:])
		return api.Point{Op: api.Call, Fn: n, Args: l}
	}
	for _, sign := range []string{"+", "-", "*", "/", "%", "==", "!=", "<", "<=", ">", ">="} {
		if a, b, ok := strings.Cut(text, " "+sign+" "); ok {
			return api.Point{Op: api.Binary, Sign: sign, A: operandOf(a), B: operandOf(b)}
		}
	}
	return api.Point{Op: api.Use, A: operandOf(text)}
}

// listOf is a number, and the operands in brackets behind it.
func listOf(text string) (n int, l []api.Operand) {
	number, rest, ok := strings.Cut(strings.TrimSuffix(text, ")"), "(")
	must(ok, text)
	for _, s := range strings.Split(rest, ", ") {
		if s != "" {
			l = append(l, operandOf(s))
		}
	}
	return numberOf(number), l
}

// graphOf is a graph with so many lifetimes and parameters, locals of these types and points of these texts, all with "; " between them.
func graphOf(lives, params int, locals, points string) api.Graph {
	g := api.Graph{Lives: lives, Params: params}
	for _, s := range strings.Split(locals, "; ") {
		g.Locals = append(g.Locals, typeOf(s))
		g.Names = append(g.Names, "")
	}
	for q, s := range strings.Split(points, "; ") {
		g.Points = append(g.Points, pointOf(s, q))
	}
	return g
}

// structOf is a struct of fields of these types.
func structOf(l ...string) api.Struct {
	var s api.Struct
	for _, f := range l {
		s.Fields = append(s.Fields, api.Field{Type: typeOf(f)})
	}
	return s
}

// outlives lays what outlives what into a graph: "0:1 0:2" says that 0 outlives 1 and 2.
func outlives(g api.Graph, s string) api.Graph {
	for _, c := range strings.Fields(s) {
		long, short, ok := strings.Cut(c, ":")
		must(ok, s)
		g.Outlives = append(g.Outlives, api.Outlives{Long: numberOf(long), Short: numberOf(short)})
	}
	return g
}

var structs = []api.Struct{structOf("i64", "Box<i64>"), structOf("#0", "Box<#1>", "bool"), structOf("i64", "bool"), structOf("#2", "i64")}

// unitOf is a main, and these graphs: the first one is 1.
func unitOf(l ...api.Graph) api.Unit {
	return api.Unit{Structs: structs, Fns: append([]api.Graph{graphOf(0, 0, "i64", "return")}, l...)}
}

// lowered are the graphs of a program.
func lowered(t *testing.T, text string) api.Unit {
	t.Helper()
	f, at, e := parse.File(text)
	if e != api.OK {
		t.Fatalf("%q: at %d, %v", text, at, e)
	}
	x, n, e := typing.Of(f)
	if e != api.OK {
		t.Fatalf("%q: node %d, %v", text, n, e)
	}
	u, fn, e := lower.Unit(x)
	if e != api.OK {
		t.Fatalf("%q: function %d, %v", text, fn, e)
	}
	return u
}

// textOf are a graph's locals and points, of a great one the first ones.
func textOf(u api.Unit, fn int) string {
	l, e := graph.Lines(u, fn)
	s := ""
	for _, t := range u.Fns[fn].Locals {
		text, _ := types.Text(t)
		s += text + "; "
	}
	return fmt.Sprintf("%.300s | %.600s %v", s, strings.Join(l, "; "), e)
}

// rowOf is a row of that width with these bits.
func rowOf(width int, l ...int) api.Row {
	r, e := bits.New(width)
	must(e == api.OK, "a row's width")
	r, e = bits.Set(r, l...)
	must(e == api.OK, "a row's bits")
	return r
}

// full is a row of that width with all bits.
func full(width int) api.Row { return rowOf(width, count(0, width)...) }

// count are the numbers from one to another, this one not among them.
func count(from, to int) []int {
	var l []int
	for q := from; q < to; q++ {
		l = append(l, q)
	}
	return l
}

// listsOf are the bits of rows.
func listsOf(rows []api.Row) [][]int {
	var l [][]int
	for _, r := range rows {
		l = append(l, slices.Collect(bits.Each(r)))
	}
	return l
}

// mustMay asks that a unit may be: what is refused of it is then refused for what is wrong elsewhere.
func mustMay(t *testing.T, u api.Unit) {
	t.Helper()
	if fn, q, e := graph.Check(u); e != api.OK {
		t.Fatalf("function %d, point %d: %v: %.900s", fn, q, e, fmt.Sprintf("%+v", u))
	}
}

// depths are the words for how far an access goes.
var depths = map[string]api.Depth{"shallow": api.Shallow, "dropping": api.Dropping, "deep": api.Deep}

// accessOf is the access of a text: "_1.* deep read", "_2 shallow written".
func accessOf(s string) api.Access {
	l := strings.Fields(s)
	must(len(l) == 3 && depths[l[1]] != 0 && (l[2] == "read" || l[2] == "written"), s)
	return api.Access{Place: placeOf(l[0]), Depth: depths[l[1]], Write: l[2] == "written"}
}

// said are accesses as a text.
func said(l []api.Access) string {
	var parts []string
	for _, a := range l {
		word := map[bool]string{false: "read", true: "written"}[a.Write]
		for name, d := range depths {
			if d == a.Depth {
				parts = append(parts, place.Text(a.Place)+" "+name+" "+word)
			}
		}
	}
	return strings.Join(parts, ", ")
}

// lent are loans as a text.
func lent(l []api.Loan) string {
	var parts []string
	for _, x := range l {
		word := map[bool]string{false: "&", true: "&mut"}[x.Mut]
		parts = append(parts, fmt.Sprintf("%d %s %s '%d", x.At, word, place.Text(x.Place), x.Region))
	}
	return strings.Join(parts, ", ")
}

// regionsOf are a graph's regions.
func regionsOf(t *testing.T, u api.Unit, fn int) api.Regions {
	t.Helper()
	r, e := region.Of(u, fn)
	if e != api.OK {
		t.Fatalf("%s: %v", textOf(u, fn), e)
	}
	return r
}

// rowsOf are rows of a graph's regions: of the loans' these, one after the other; all others have all bits.
func rowsOf(t *testing.T, u api.Unit, fn int, l ...[]int) []api.Row {
	t.Helper()
	r := regionsOf(t, u, fn)
	rows := slices.Repeat([]api.Row{full(region.Width(r))}, r.Count)
	for q, p := range u.Fns[fn].Points {
		if p.Op == api.Borrow && len(l) > 0 {
			rows[r.At[q]] = rowOf(region.Width(r), l[0]...)
			l = l[1:]
		}
	}
	must(len(l) == 0, "more rows than loans")
	return rows
}

// rangesOf are rows of a graph's loans.
func rangesOf(u api.Unit, fn int, l ...[]int) []api.Row {
	var ranges []api.Row
	for _, points := range l {
		ranges = append(ranges, rowOf(len(u.Fns[fn].Points), points...))
	}
	return ranges
}

// mustOf asks for a graph's loans.
func mustOf(t *testing.T, u api.Unit, fn int, want string) []api.Loan {
	t.Helper()
	l, e := loan.Of(u, fn)
	if e != api.OK || lent(l) != want {
		t.Fatalf("%s: Of: %.400s, %v; want %.400s", textOf(u, fn), lent(l), e, want)
	}
	return l
}

// mustLook asks what a point looks at.
func mustLook(t *testing.T, u api.Unit, fn, q int, want string) []api.Access {
	t.Helper()
	l, e := loan.Looks(u, fn, q)
	if e != api.OK || said(l) != want {
		t.Fatalf("%s: Looks(%d): %.400s, %v; want %.400s", textOf(u, fn), q, said(l), e, want)
	}
	return l
}

// mustBreak asks whether an access breaks a loan.
func mustBreak(t *testing.T, u api.Unit, fn, k int, a api.Access, want bool) {
	t.Helper()
	if is, e := loan.Breaks(u, fn, k, a); e != api.OK || is != want {
		t.Fatalf("%s: Breaks(%d; %s): %v, %v; want %v", textOf(u, fn), k, said([]api.Access{a}), is, e, want)
	}
}

// mustKill asks which loans a point kills.
func mustKill(t *testing.T, u api.Unit, fn, q int, want ...int) {
	t.Helper()
	if l, e := loan.Kills(u, fn, q); e != api.OK || !slices.Equal(l, want) {
		t.Fatalf("%s: Kills(%d): %v, %v; want %v", textOf(u, fn), q, l, e, want)
	}
}

// mustRange asks for ranges with these points, which may be and are as wide as the graph has points.
func mustRange(t *testing.T, u api.Unit, fn int, rows []api.Row, want ...[]int) []api.Row {
	t.Helper()
	ranges, e := loan.Ranges(u, fn, rows)
	if e != api.OK || len(ranges) != len(want) {
		t.Fatalf("%s: Ranges: %d of them, %v; want %d", textOf(u, fn), len(ranges), e, len(want))
	}
	for k, r := range ranges {
		if l := slices.Collect(bits.Each(r)); !bits.May(r) || r.Width != len(u.Fns[fn].Points) || !slices.Equal(l, want[k]) {
			t.Fatalf("%s: Ranges(%.300s), loan %d: width %d, %.300s; want %.300s", textOf(u, fn), fmt.Sprint(listsOf(rows)), k, r.Width, fmt.Sprint(l), fmt.Sprint(want[k]))
		}
	}
	return ranges
}

// mustClosed asks whether ranges are closed; if not, where.
func mustClosed(t *testing.T, u api.Unit, fn int, rows, ranges []api.Row, k, at int, ok bool) {
	t.Helper()
	if x, q, is, e := loan.Closed(u, fn, rows, ranges); x != k || q != at || is != ok || e != api.OK {
		t.Fatalf("%s: Closed(%.300s; %.300s): %d, %d, %v, %v; want %d, %d, %v", textOf(u, fn), fmt.Sprint(listsOf(rows)), fmt.Sprint(listsOf(ranges)), x, q, is, e, k, at, ok)
	}
}

// mustBroken asks whether no loan is broken; if one is, where.
func mustBroken(t *testing.T, u api.Unit, fn int, ranges []api.Row, k, at int, ok bool) {
	t.Helper()
	if x, q, is, e := loan.Broken(u, fn, ranges); x != k || q != at || is != ok || e != api.OK {
		t.Fatalf("%s: Broken(%.300s): %d, %d, %v, %v; want %d, %d, %v", textOf(u, fn), fmt.Sprint(listsOf(ranges)), x, q, is, e, k, at, ok)
	}
}

// mustWhy asks for a way; for none, if want is empty.
func mustWhy(t *testing.T, u api.Unit, fn int, rows []api.Row, k, q int, want ...int) {
	t.Helper()
	way, ok, e := loan.Why(u, fn, rows, k, q)
	if e != api.OK || ok != (len(want) > 0) || !slices.Equal(way, want) {
		t.Fatalf("%s: Why(%.300s; %d, %d): %.300s, %v, %v; want %.300s", textOf(u, fn), fmt.Sprint(listsOf(rows)), k, q, fmt.Sprint(way), ok, e, fmt.Sprint(want))
	}
}
