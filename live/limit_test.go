package live_test

import (
	"fmt"
	"slices"
	"strings"
	"testing"

	"loanword/api"
	"loanword/live"
)

const (
	most       = api.MaxPoints
	mostLocals = api.MaxLocals
)

// great is a unit of one graph of as many points and locals as there may be, each point as point says.
func great(point func(q int) string) api.Unit {
	var l []string
	for q := range most {
		l = append(l, point(q))
	}
	return unitOf("i64"+strings.Repeat("; i64", mostLocals-1), strings.Join(l, "; "))
}

// P14.1 to P14.3: one behind the other: first each local is assigned, then, in the other order, each is used.
func TestGreatChain(t *testing.T) {
	u := great(func(q int) string {
		switch {
		case q < mostLocals:
			return fmt.Sprintf("_%d = %d", q, q)
		case q == most-1:
			return "return"
		}
		return fmt.Sprintf("print copy _%d", most-1-q)
	})
	mustMay(t, u)
	var want [][]int
	for local := range mostLocals {
		want = append(want, count(local+1, most-local))
	}
	rows := mustOf(t, u, 0, want...)
	mustClosed(t, u, 0, rows, 0, 0, true)
	for _, local := range []int{0, 1, 63, 64, 127, 128, 300, 511} {
		mustWhy(t, u, 0, local, local)
		mustWhy(t, u, 0, local, local+1, count(local+1, most-local)...)
		mustEnd(t, u, 0, local, local)
		mustUse(t, u, 0, most-1-local, local)
		mustAt(t, u, 0, local, count(0, local)...)
	}
	rows[511] = rowOf(most)
	mustClosed(t, u, 0, rows, 511, 512, false)
	rows[64] = rowOf(most, count(66, most-64)...)
	mustClosed(t, u, 0, rows, 64, 65, false)
}

// All ways go against the numbers, and nobody comes there from 0: it settles soon all the same.
func TestGreatChainDown(t *testing.T) {
	u := great(func(q int) string {
		switch {
		case q == 0:
			return "return"
		case q < mostLocals:
			return fmt.Sprintf("print copy _%d -> %d", q, q-1)
		}
		return fmt.Sprintf("print copy _%d -> %d", most-1-q, q-1)
	})
	mustMay(t, u)
	var want [][]int
	for local := range mostLocals {
		want = append(want, count(local, most))
	}
	mustOf(t, u, 0, want...)
	mustAt(t, u, 0, 511, count(0, 512)...)
	down := count(5, most-5)
	slices.Reverse(down)
	mustWhy(t, u, 0, 5, 510, down[len(down)-506:]...)
}

// Round: what is nowhere assigned is live everywhere; what is, from there back to its use.
func TestGreatRing(t *testing.T) {
	u := great(func(q int) string {
		if q%2 == 0 {
			return fmt.Sprintf("print copy _%d -> %d", q/2, (q+most-1)%most)
		}
		return fmt.Sprintf("_%d = 1 -> %d", q/2/2*2, (q+most-1)%most)
	})
	mustMay(t, u)
	var want [][]int
	for local := range mostLocals {
		switch use := 2 * local; local % 2 {
		case 0: // assigned at the numbers use + 1 and use + 3, and one goes down
			want = append(want, uses(use))
		default:
			want = append(want, count(0, most))
		}
	}
	rows := mustOf(t, u, 0, want...)
	mustClosed(t, u, 0, rows, 0, 0, true)
	mustWhy(t, u, 0, 1, 1, append(uses(1, 0), reversed(count(2, most))...)...)
	mustWhy(t, u, 0, 2, 5)
}

func reversed(l []int) []int {
	slices.Reverse(l)
	return l
}

// All points go to one, which gets more and more from behind.
func TestGreatStar(t *testing.T) {
	u := great(func(q int) string {
		if q == 0 {
			return fmt.Sprintf("if true -> %d else 0", most-1)
		}
		return fmt.Sprintf("print copy _%d -> 0", q%mostLocals)
	})
	mustMay(t, u)
	want := slices.Repeat([][]int{nil}, mostLocals)
	want[mostLocals-1] = count(0, most)
	for local := range mostLocals {
		if local == mostLocals-1 {
			continue
		}
		if local > 0 {
			want[local] = append(want[local], local)
		}
		want[local] = append(want[local], local+mostLocals)
	}
	mustOf(t, u, 0, want...)
}

// Each point goes to its neighbours: each local is live everywhere, and is told by the nearest use.
func TestGreatLadder(t *testing.T) {
	u := great(func(q int) string {
		if q%2 == 0 {
			return fmt.Sprintf("if true -> %d else %d", q+1, max(q-1, 0))
		}
		return fmt.Sprintf("print copy _%d -> %d", q/2, (q+1)%most)
	})
	mustMay(t, u)
	rows := mustOf(t, u, 0, slices.Repeat([][]int{count(0, most)}, mostLocals)...)
	mustClosed(t, u, 0, rows, 0, 0, true)
	mustWhy(t, u, 0, 511, 0, count(0, most)...)
}

// Diamonds one behind the other: very many ways, of which the first one by number is told soon.
func TestGreatDiamonds(t *testing.T) {
	u := great(func(q int) string {
		switch {
		case q == most-1:
			return "return"
		case q%3 == 0:
			return fmt.Sprintf("if true -> %d else %d", q+2, q+1)
		case q == 4:
			return "_0 = 1 -> 6"
		case q%3 == 1:
			return fmt.Sprintf("goto -> %d", q+2)
		}
		return fmt.Sprintf("goto -> %d", q+1)
	})
	mustMay(t, u)
	var way []int
	for q := range most {
		if q != 4 && (q%3 != 2 || q == 5) {
			way = append(way, q)
		}
	}
	mustWhy(t, u, 0, 0, 0, way...)
	mustWhy(t, u, 0, 0, 4)
	mustWhy(t, u, 0, 1, 0)
}

// As much as may be is taken: as many graphs, as many operands.
func TestMostOperands(t *testing.T) {
	eight := graphOf(0, 8, "i64; i64; i64; i64; i64; i64; i64; i64; i64", "return")
	u := api.Unit{Structs: []api.Struct{structOf(slices.Repeat([]string{"i64"}, 8)...)}}
	u.Fns = slices.Repeat([]api.Graph{eight}, api.MaxItems)
	args := "copy _9, copy _3, copy _8, 7, copy _3, copy _0, copy _511, copy _64"
	u.Fns[31] = graphOf(0, 0, "i64"+strings.Repeat("; i64", mostLocals-2)+"; i64", "_9 = f30("+args+"); _10 = f30("+args+"); return")
	u.Fns[31].Locals[100] = typeOf("#0")
	u.Fns[31].Points[1] = pointOf("_100 = #0("+args+")", 1)
	u.Main = 31
	mustMay(t, u)
	for q := range 2 {
		mustUse(t, u, 31, q, 0, 3, 8, 9, 64, 511)
	}
	mustEnd(t, u, 31, 0, -1)
	mustEnd(t, u, 31, 1, 100)
	mustAt(t, u, 31, 0, 0, 3, 8, 9, 64, 511)
	rows := mustOf(t, u, 30, append([][]int{{0}}, make([][]int, 8)...)...)
	mustClosed(t, u, 30, rows, 0, 0, true)
}

// One point, one local: the least that may be.
func TestLeast(t *testing.T) {
	u := unitOf("i64", "return")
	rows := mustOf(t, u, 0, []int{0})
	mustClosed(t, u, 0, rows, 0, 0, true)
	mustClosed(t, u, 0, []api.Row{rowOf(1)}, 0, 0, false)
	mustWhy(t, u, 0, 0, 0, 0)
	u = unitOf("i64", "goto -> 0")
	rows = mustOf(t, u, 0, nil)
	mustClosed(t, u, 0, rows, 0, 0, true)
	mustClosed(t, u, 0, []api.Row{full(1)}, 0, 0, true)
	mustWhy(t, u, 0, 0, 0)
	if l, e := live.At(u, 0, 0); e != api.OK || len(l) != 0 {
		t.Errorf("At: %v, %v", l, e)
	}
}

// Widths at which a row's last word begins or is full.
func TestWidths(t *testing.T) {
	for _, width := range []int{63, 64, 65, 127, 128, 129, most - 1} {
		var l []string
		for range width - 1 {
			l = append(l, "goto")
		}
		u := unitOf("i64; i64", strings.Join(append(l, "return"), "; "))
		rows := mustOf(t, u, 0, count(0, width), nil)
		mustClosed(t, u, 0, rows, 0, 0, true)
		mustClosed(t, u, 0, []api.Row{rows[0], full(width)}, 0, 0, true)
		mustClosed(t, u, 0, []api.Row{rows[0], rowOf(width, width-1)}, 1, width-2, false)
		mustClosed(t, u, 0, []api.Row{rowOf(width, count(0, width-1)...), rows[1]}, 0, width-1, false)
	}
}
