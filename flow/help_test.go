package flow_test

import (
	"fmt"
	"math/rand"
	"slices"
	"strings"
	"testing"

	"loanword/api"
	"loanword/flow"
	"loanword/lower"
	"loanword/parse"
	"loanword/typing"
)

// pointOf is the point of a text: "b1,4" branches, "g2" goes on, "p2" prints and goes on, "r" returns.
func pointOf(s string) api.Point {
	var p api.Point
	var err error
	switch s[0] {
	case 'b':
		p = api.Point{Op: api.Branch, A: api.Operand{Kind: api.ConstBool}}
		_, err = fmt.Sscanf(s, "b%d,%d", &p.Next, &p.Else)
	case 'g':
		p.Op = api.Goto
		_, err = fmt.Sscanf(s, "g%d", &p.Next)
	case 'p':
		p = api.Point{Op: api.Print, A: api.Operand{Kind: api.ConstInt}}
		_, err = fmt.Sscanf(s, "p%d", &p.Next)
	case 'r':
		p.Op = api.Return
	}
	if err != nil || p.Op == api.NoPoint {
		panic("no point: " + s)
	}
	return p
}

// graphOf is a graph of points of these texts.
func graphOf(points ...string) api.Graph {
	g := api.Graph{Locals: []api.Type{{Kind: api.TyInt}}, Names: []string{""}}
	for _, s := range points {
		g.Points = append(g.Points, pointOf(s))
	}
	return g
}

// unitOf is a unit of one graph, its points' texts with blanks between them.
func unitOf(points string) api.Unit {
	return api.Unit{Fns: []api.Graph{graphOf(strings.Fields(points)...)}}
}

// The chapter's example.
const example = "b1,4 g2 b3,1 g5 g5 r r"

// lowered are the graphs of a program.
func lowered(t *testing.T, text string) api.Unit {
	t.Helper()
	f, at, e := parse.File(text)
	if e != api.OK {
		t.Fatalf("%q: at %d, %v", text, at, e)
	}
	x, n, e := typing.Of(f)
	if e != api.OK {
		t.Fatalf("%q: node %d, %v", text, n, e)
	}
	u, fn, e := lower.Unit(x)
	if e != api.OK {
		t.Fatalf("%q: function %d, %v", text, fn, e)
	}
	return u
}

// program has points of each Op, loops in one another, and points that nobody reaches.
const program = "struct P { a: i64, b: Box<i64> } struct Q { p: P, t: bool } " +
	"fn main() -> i64 { let p = P { a: read(), b: box(2) }; let r = &mut p; let i = 0; while i < 3 || false { i = i + 1; { let b = box(i); if *b == 2 { continue; } } " +
	"loop { let c = -i; if !(1 == c) && true { break; } else { if i > 2 { return h(); } } while true { } } } (*r).a = 4; print(p.a); g(&p, true); k(); return 0; i = 5; } " +
	"fn g<'a>(x: &'a P, y: bool) -> &'a P { loop { if y { return x; } if !y { loop { if y { break; } } } } } " +
	"fn h() -> i64 { return 7; print(1); loop { } } fn k() -> Box<i64> { return box(1); }"

// chance makes graphs.
type chance struct{ *rand.Rand }

func byChance(seed int64) chance { return chance{rand.New(rand.NewSource(seed))} }

// graph is one of so many points, of which some go on nearby and some anywhere.
func (c chance) graph(points int) api.Graph {
	var l []string
	far := 1 + c.Intn(points)
	for q := range points {
		to := func() int {
			switch c.Intn(3) {
			case 0:
				return c.Intn(points)
			case 1:
				return (q + 1) % points
			}
			return (q + points + c.Intn(far+1) - far/2) % points
		}
		switch k := c.Intn(20); {
		case k == 0:
			l = append(l, "r")
		case k < 5:
			l = append(l, fmt.Sprintf("g%d", to()))
		case k < 9:
			l = append(l, fmt.Sprintf("p%d", to()))
		default:
			l = append(l, fmt.Sprintf("b%d,%d", to(), to()))
		}
	}
	return graphOf(l...)
}

func (c chance) unit(points int) api.Unit {
	return api.Unit{Fns: []api.Graph{c.graph(points)}}
}

// textOf tells how the points of a graph go on, of a great one the first ones.
func textOf(g api.Graph) string {
	var l []string
	for _, p := range g.Points {
		switch p.Op {
		case api.Return:
			l = append(l, "r")
		case api.Branch:
			l = append(l, fmt.Sprintf("b%d,%d", p.Next, p.Else))
		default:
			l = append(l, fmt.Sprintf("g%d", p.Next))
		}
	}
	return fmt.Sprintf("%.300s", strings.Join(l, " "))
}

// mustList asks for a list without an error.
func mustList(t *testing.T, what string, l []int, e api.Errno, want ...int) {
	t.Helper()
	if e != api.OK || !slices.Equal(l, want) {
		t.Fatalf("%s: %.300s, %v; want %.300s", what, fmt.Sprint(l), e, fmt.Sprint(want))
	}
}

// mustWay asks for a way; for none, if want is empty.
func mustWay(t *testing.T, u api.Unit, fn, from, to int, without []int, want []int) {
	t.Helper()
	way, ok, e := flow.Way(u, fn, from, to, without...)
	if e != api.OK || ok != (len(want) > 0) || !slices.Equal(way, want) {
		t.Fatalf("%s: Way(%d, %d, %.100s): %.300s, %v, %v; want %.300s", textOf(u.Fns[fn]), from, to, fmt.Sprint(without), fmt.Sprint(way), ok, e, fmt.Sprint(want))
	}
}

// mustIs asks whether a list is a way.
func mustIs(t *testing.T, u api.Unit, fn int, way []int, at int, is bool) {
	t.Helper()
	if k, ok, e := flow.Is(u, fn, way...); k != at || ok != is || e != api.OK {
		t.Fatalf("%s: Is(%v): %d, %v, %v; want %d, %v", textOf(u.Fns[fn]), way, k, ok, e, at, is)
	}
}

// mustBack asks for these edges back.
func mustBack(t *testing.T, u api.Unit, fn int, want ...[2]int) {
	t.Helper()
	if l, e := flow.Back(u, fn); e != api.OK || !slices.Equal(l, want) {
		t.Fatalf("%s: Back: %v, %v; want %v", textOf(u.Fns[fn]), l, e, want)
	}
}

// mustNotLoop asks that Loop refuses these points.
func mustNotLoop(t *testing.T, u api.Unit, fn, from, to int) {
	t.Helper()
	if l, e := flow.Loop(u, fn, from, to); e != api.ErrArg || len(l) != 0 {
		t.Fatalf("%s: Loop(%d, %d): %v, %v; want ErrArg", textOf(u.Fns[fn]), from, to, l, e)
	}
}
