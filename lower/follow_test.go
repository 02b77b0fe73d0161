package lower_test

import (
	"reflect"
	"strings"
	"testing"

	"loanword/api"
	"loanword/graph"
	"loanword/lower"
	"loanword/parse"
	"loanword/typing"
)

// files are what typing answers of texts by chance that are taken.
func files(t *testing.T, seed int64, count int) []api.Typed {
	t.Helper()
	c := byChance(seed)
	var l []api.Typed
	for range count {
		s := c.fileText()
		f, at, e := parse.File(s)
		if e == api.ErrNest || e == api.ErrLong {
			continue
		}
		if e != api.OK {
			t.Fatalf("%q: at %d, %v", s, at, e)
		}
		if x, _, e := typing.Of(f); e == api.OK {
			l = append(l, x)
		}
	}
	if len(l) < count*2/3 {
		t.Errorf("only %d of %d are taken", len(l), count)
	}
	return l
}

// P11.1: of files by chance each graph is what the chapter says, point by point, whatever the places of the nodes are.
func TestByChance(t *testing.T) {
	small, ops := 0, map[api.PointOp]int{}
	for _, x := range files(t, 111, 200) {
		if mustHold(t, x) {
			small++
		}
		mustHold(t, numbered(t, x))
		u, _, _ := lower.Unit(x)
		for _, g := range u.Fns {
			for _, p := range g.Points {
				ops[p.Op]++
			}
		}
	}
	for op := api.Use; op <= api.Return; op++ {
		if ops[op] < 100 {
			t.Errorf("only %d points of Op %d", ops[op], op)
		}
	}
	if small < 100 {
		t.Errorf("only %d are small enough", small)
	}
}

// P11.2: what Unit answers may be; Fn answers its graphs, Size how great they are.
func TestUnitMayBe(t *testing.T) {
	for _, x := range files(t, 112, 100) {
		u, _, e := lower.Unit(x)
		if e == api.ErrPoint {
			continue
		}
		if fn, q, e := graph.Check(u); e != api.OK {
			t.Fatalf("function %d, point %d: %+v", fn, q, u)
		}
		if u.Fns[u.Main].Name != "main" || !reflect.DeepEqual(u.Structs, x.Decls.Structs) {
			t.Fatalf("%+v", u)
		}
		for fn, want := range u.Fns {
			if g, e := lower.Fn(x, fn); e != api.OK || !reflect.DeepEqual(g, want) {
				t.Fatalf("Fn of %d: %v, %+v; want %+v", fn, e, g, want)
			}
			if points, locals, loans, e := lower.Size(x, fn); points != len(want.Points) || locals != len(want.Locals) || loans != loansOf(want) || e != api.OK {
				t.Fatalf("Size of %d: %d, %d, %d, %v", fn, points, locals, loans, e)
			}
		}
	}
}

// P11.3: which locals are assigned, and how often; which are operands; what the last point is.
func TestLocalsAreAssigned(t *testing.T) {
	twice := 0
	for _, x := range files(t, 113, 200) {
		x = numbered(t, x)
		u, _, e := lower.Unit(x)
		if e == api.ErrPoint {
			continue
		}
		for fn, g := range u.Fns {
			if g.Points[len(g.Points)-1].Op != api.Return {
				t.Fatalf("the last point is %+v", g.Points[len(g.Points)-1])
			}
			lets := x.Vars[fn][g.Params:]
			for local := g.Params + 1; local < len(g.Locals); local++ {
				made := assigning(g, local)
				if g.Names[local] == "" {
					want := 1
					if len(made) > 0 && isLazy(x.Tree.Nodes[g.Points[made[0]].At]) {
						want = 2
						twice++
					}
					if len(made) != want || operandCount(t, u, fn, local) > 1 {
						t.Fatalf("function %d: local %d is assigned at %v, and is an operand %d times", fn, local, made, operandCount(t, u, fn, local))
					}
					continue
				}
				if len(made) == 0 && x.Tree.Nodes[lets[0].Node].N != 1 || g.Names[local] != lets[0].Name {
					t.Fatalf("function %d: local %d, %q, is not assigned", fn, local, g.Names[local])
				}
				lets = lets[1:]
			}
			if len(lets) > 0 {
				t.Fatalf("function %d: no locals of %v", fn, lets)
			}
		}
	}
	if twice < 100 {
		t.Errorf("only %d && and ||", twice)
	}
}

func isLazy(x api.Node) bool { return x.Kind == api.NBin && (x.S == "&&" || x.S == "||") }

// assigning are the points that assign a whole local.
func assigning(g api.Graph, local int) []int {
	var l []int
	for q, p := range g.Points {
		if p.Op >= api.Use && p.Op <= api.Read && p.To.Local == local && len(p.To.Path) == 0 {
			l = append(l, q)
		}
	}
	return l
}

// operandCount tells how often a local stands in an operand.
func operandCount(t *testing.T, u api.Unit, fn, local int) int {
	t.Helper()
	count := 0
	for _, p := range u.Fns[fn].Points {
		for _, o := range append([]api.Operand{p.A, p.B}, p.Args...) {
			if o.Kind >= api.Copy && o.Place.Local == local {
				count++
			}
		}
	}
	return count
}

// P11.4: with its functions in another order a file has the same graphs, but for the functions' numbers (and for where they stand in the text).
func TestOtherOrder(t *testing.T) {
	c := byChance(114)
	tried := 0
	for range 100 {
		items := c.items()
		order := c.Perm(len(items))
		other := []string{chanceStructs}
		for _, fn := range order {
			other = append(other, items[fn])
		}
		x := chanceStructs + " " + strings.Join(items, " ")
		a, ok := lowered(t, x)
		b, okToo := lowered(t, strings.Join(other, " "))
		if ok != okToo {
			t.Fatalf("%q: one order is lowered, the other is not", x)
		}
		if !ok {
			continue
		}
		for place, fn := range order {
			for q := range b.Fns[place].Points {
				if p := &b.Fns[place].Points[q]; p.Op == api.Call {
					p.Fn = order[p.Fn]
				}
			}
			if !reflect.DeepEqual(a.Fns[fn], b.Fns[place]) {
				t.Fatalf("%q: %+v; want %+v", x, b.Fns[place], a.Fns[fn])
			}
		}
		if order[b.Main] != a.Main || !reflect.DeepEqual(a.Structs, b.Structs) {
			t.Fatalf("main is %d, then %d", a.Main, b.Main)
		}
		tried++
	}
	if tried < 50 {
		t.Errorf("only %d files", tried)
	}
}

// lowered is a text's unit, if it is small enough, its points' places counted from the function's.
func lowered(t *testing.T, s string) (api.Unit, bool) {
	t.Helper()
	x := typed(t, s)
	u, _, e := lower.Unit(x)
	for fn, sig := range x.Decls.Sigs {
		if e == api.OK {
			for q := range u.Fns[fn].Points {
				u.Fns[fn].Points[q].At -= x.Tree.Nodes[sig.Node].At
			}
		}
	}
	return u, e == api.OK
}
