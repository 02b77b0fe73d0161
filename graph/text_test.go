package graph_test

import (
	"fmt"
	"reflect"
	"slices"
	"strings"
	"testing"

	"loanword/api"
	"loanword/graph"
	"loanword/place"
)

// P10.3: the chapter's examples, at the point 4.
func TestChapterTexts(t *testing.T) {
	locals := []string{"i64", "&mut #0", "bool", "&mut i64", "bool", "Box<i64>", "#0"}
	u := api.Unit{Structs: []api.Struct{structOf("i64")}, Fns: []api.Graph{
		graphOf(0, locals, slices.Repeat([]string{"goto -> 4"}, 10)...),
		graphOf(2, []string{"#0", "i64", "Box<i64>"}, "return"),
	}}
	p := &u.Fns[0].Points[4]
	for text, x := range map[string]api.Point{
		"_3 = &mut _1.*.0":         {Op: api.Borrow, From: api.Place{Local: 1, Path: []api.Step{deref, 0}}, Mut: true, To: api.Place{Local: 3}, Next: 5},
		"if copy _2 -> 5 else 9":   {Op: api.Branch, A: api.Operand{Kind: api.Copy, Place: api.Place{Local: 2}}, Next: 5, Else: 9},
		"_6 = f1(7, move _5) -> 2": {Op: api.Call, Fn: 1, Args: []api.Operand{{Kind: api.ConstInt, N: 7}, {Kind: api.Move, Place: api.Place{Local: 5}}}, To: api.Place{Local: 6}, Next: 2},
	} {
		*p = x
		if s, e := graph.Text(u, 0, 4); s != text || e != api.OK {
			t.Errorf("%q, %v; want %q", s, e, text)
		}
	}
}

// texts are points of each Op, as their texts have them at the point 0, by the chapter's table.
var texts = []string{
	"_0 = 1", "_0 = -1", "_0 = 9223372036854775807", "_0 = -9223372036854775808", "_1 = true", "_1 = false", "_0 = copy _4.*", "_2 = move _2", "_7.*.1.* = copy _14 -> 3",
	"_0 = copy _0 + 1", "_0 = 1 - -1", "_0 = 1 * 2", "_0 = 1 / 0", "_0 = 1 % 0", "_1 = 1 == 2", "_1 = true != copy _1", "_1 = 1 < 2", "_1 = 1 <= 2 -> 0", "_1 = 1 > 2", "_1 = 1 >= 2",
	"_0 = - 1", "_0 = - -1", "_0 = - copy _0 -> 2", "_1 = ! true", "_1 = ! copy _17.*.0",
	"_3 = & _0", "_4 = &mut _0", "_3 = & _2.* -> 0", "_4 = &mut _12.*.0.1.*", "_6 = & _12.*.0", "_20.* = &mut _5",
	"_2 = box 1", "_12 = box move _11", "_21 = box move _2 -> 4", "_0 = read", "_5.0 = read -> 3",
	"_5 = #0(1, move _2)", "_16 = #2(true) -> 0", "_11 = #1(move _5, move _12, copy _1)", "_3 = f0(copy _3, move _20)", "_0 = f1()", "_0 = f1() -> 2",
	"print 1", "print copy _0 -> 0", "drop _5.1", "drop _2 -> 2", "dead _2", "dead _21 -> 3",
	"if true -> 1 else 2", "if copy _1 -> 0 else 0", "if copy _1 -> 2 else 1", "goto -> 0", "goto -> 1", "goto -> 4", "return",
}

// P10.3: each row of the chapter's table.
func TestTexts(t *testing.T) {
	u, p := pointUnit()
	for _, text := range texts {
		*p = pointOf(0, text)
		if s, e := graph.Text(u, 1, 0); s != text || e != api.OK {
			t.Errorf("%q, %v; want %q", s, e, text)
		}
	}
}

// P10.3: whether Next is told hangs on the point's number.
func TestTextsOfNext(t *testing.T) {
	u := world()
	points := u.Fns[1].Points
	for q := range points {
		for next := range points {
			for text, always := range map[string]bool{"_0 = read": false, "print 7": false, "goto": true} {
				was := points[q]
				points[q] = pointOf(q, text)
				points[q].Next = next
				want := text
				if always || next != q+1 {
					want = fmt.Sprintf("%s -> %d", text, next)
				}
				if s, e := graph.Text(u, 1, q); s != want || e != api.OK {
					t.Errorf("%q, %v; want %q", s, e, want)
				}
				points[q] = was
			}
		}
	}
}

// plainPoint is a point's text: the chapter's table, filled in.
func plainPoint(q int, p api.Point) string {
	operand := func(o api.Operand) string {
		return map[api.OperandKind]string{api.ConstInt: fmt.Sprint(o.N), api.ConstBool: fmt.Sprint(o.N != 0), api.Copy: "copy " + place.Text(o.Place), api.Move: "move " + place.Text(o.Place)}[o.Kind]
	}
	var args []string
	for _, o := range p.Args {
		args = append(args, operand(o))
	}
	mut := map[bool]string{true: "mut"}[p.Mut]
	s := map[api.PointOp]string{
		api.Use: "P = A", api.Binary: "P = A SIGN B", api.Unary: "P = SIGN A", api.Borrow: "P = &MUT Q", api.Box: "P = box A", api.Read: "P = read", api.Make: "P = #S(L)", api.Call: "P = fF(L)",
		api.Print: "print A", api.Drop: "drop Q", api.Dead: "dead Q", api.Branch: "if A", api.Goto: "goto", api.Return: "return",
	}[p.Op]
	s = strings.NewReplacer("SIGN", p.Sign, "MUT", mut, "P", place.Text(p.To), "A", operand(p.A), "B", operand(p.B), "Q", place.Text(p.From), "S", fmt.Sprint(p.Struct), "F", fmt.Sprint(p.Fn), "L", strings.Join(args, ", ")).Replace(s)
	if p.Op != api.Return && (p.Next != q+1 || p.Op == api.Branch || p.Op == api.Goto) {
		s += fmt.Sprintf(" -> %d", p.Next)
	}
	if p.Op == api.Branch {
		s += fmt.Sprintf(" else %d", p.Else)
	}
	return s
}

// P10.3: the lines of each graph are the texts of its points, each behind its number.
func TestLines(t *testing.T) {
	c := byChance(107)
	for range 150 {
		u := c.unit()
		for fn, g := range u.Fns {
			lines, e := graph.Lines(u, fn)
			if e != api.OK || len(lines) != len(g.Points) {
				t.Fatalf("Lines: %q, %v", lines, e)
			}
			for q, p := range g.Points {
				s, e := graph.Text(u, fn, q)
				if s != plainPoint(q, p) || e != api.OK || lines[q] != fmt.Sprintf("%d: %s", q, s) {
					t.Fatalf("%q, %v, %q; want %q", s, e, lines[q], plainPoint(q, p))
				}
			}
		}
	}
	u := world()
	lines, e := graph.Lines(u, 1)
	if want := []string{"0: _2 = box 7", "1: _16 = #2(false)", "2: _3 = & _2.*", "3: _0 = copy _3.*", "4: return"}; e != api.OK || !slices.Equal(lines, want) {
		t.Errorf("%q, %v; want %q", lines, e, want)
	}
}

// P10.5: a point is read back from its text, but for At: two with the same text at one place are the same.
func TestTextsTellPointsApart(t *testing.T) {
	c := byChance(108)
	for range 200 {
		u := c.unit()
		for fn, g := range u.Fns {
			for q, p := range g.Points {
				s, _ := graph.Text(u, fn, q)
				back := pointOf(q, s)
				back.At = p.At
				x := u
				x.Fns = slices.Clone(u.Fns)
				x.Fns[fn].Points = slices.Clone(g.Points)
				x.Fns[fn].Points[q] = back
				if !graph.Same(u, x) {
					t.Fatalf("%q: %+v, then %+v", s, p, back)
				}
			}
		}
	}
}

// P10.5: all points that may be main's first one of a small world: no two have one text.
func TestNoTextTwice(t *testing.T) {
	u := world()
	u.Fns[1] = graphOf(0, []string{"i64", "bool", "Box<i64>", "&i64", "&mut i64", "#0"}, "return", "return")
	p := &u.Fns[1].Points[0]
	met := map[string]api.Point{}
	tell := func(x api.Point) {
		for next := range 2 {
			for other := range 2 {
				x.Next, x.Else = next, other
				*p = x
				s, e := graph.Text(u, 1, 0)
				if e != api.OK {
					continue
				}
				if y, twice := met[s]; twice && !reflect.DeepEqual(x, y) {
					t.Fatalf("%q: %+v and %+v", s, x, y)
				}
				met[s] = x
			}
		}
	}
	places := allPlaces(u, 1, 2)
	operands := append(operandsOf("1, -1, true, false, 0"), api.Operand{})
	for _, q := range places {
		operands = append(operands, api.Operand{Kind: api.Copy, Place: q}, api.Operand{Kind: api.Move, Place: q})
	}
	for op := api.Use; op <= api.Return; op++ {
		for _, a := range operands {
			tell(api.Point{Op: op, A: a})
			for _, to := range places {
				for _, sign := range []string{"", "-", "!"} {
					tell(api.Point{Op: op, To: to, A: a, Sign: sign})
				}
				tell(api.Point{Op: op, To: to, Args: []api.Operand{operandOf("1"), a}})
			}
		}
		for _, from := range places {
			tell(api.Point{Op: op, From: from})
			for _, to := range places {
				tell(api.Point{Op: op, To: to, From: from})
				tell(api.Point{Op: op, To: to, From: from, Mut: true})
			}
		}
	}
	if len(met) < 200 {
		t.Errorf("only %d texts", len(met))
	}
}
