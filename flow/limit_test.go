package flow_test

import (
	"fmt"
	"slices"
	"strings"
	"testing"

	"loanword/api"
	"loanword/flow"
)

const most = api.MaxPoints

// shaped is a unit of one graph of as many points as there may be, each as point says.
func shaped(point func(q int) string) api.Unit {
	var l []string
	for q := range most {
		l = append(l, point(q))
	}
	return unitOf(strings.Join(l, " "))
}

// count are the numbers from one to another, this one not among them.
func count(from, to int) []int {
	var l []int
	for q := from; q < to; q++ {
		l = append(l, q)
	}
	return l
}

// P12.1 to P12.3: as many points as may be, one behind the other, the last one back to the first one.
func TestGreatRing(t *testing.T) {
	u := shaped(func(q int) string { return fmt.Sprintf("g%d", (q+1)%most) })
	all := count(0, most)
	mustWay(t, u, 0, 0, most-1, nil, all)
	mustWay(t, u, 0, 0, most-1, []int{most / 2}, nil)
	mustWay(t, u, 0, most-1, most-2, nil, append([]int{most - 1}, all[:most-1]...))
	mustIs(t, u, 0, all, 0, true)
	mustIs(t, u, 0, append(count(1, most), 1), most-1, false)
	mustIs(t, u, 0, append(count(1, most), 0), 0, true)
	mustBack(t, u, 0, [2]int{most - 1, 0})
	for what, call := range map[string]func() ([]int, api.Errno){
		"Reach": func() ([]int, api.Errno) { return flow.Reach(u, 0, most/2) },
		"Order": func() ([]int, api.Errno) { return flow.Order(u, 0) },
		"Above": func() ([]int, api.Errno) { return flow.Above(u, 0, most-1) },
		"Loop":  func() ([]int, api.Errno) { return flow.Loop(u, 0, most-1, 0) },
	} {
		l, e := call()
		mustList(t, what, l, e, all...)
	}
	l, e := flow.Above(u, 0, 64)
	mustList(t, "Above(64)", l, e, all[:65]...)
	l, e = flow.Right(u, 0)
	mustList(t, "Right", l, e, count(-1, most-1)...)
	l, e = flow.Before(u, 0, 0)
	mustList(t, "Before", l, e, most-1)
}

// The same, each point's number turned round, so that the walk goes against the numbers.
func TestGreatRingDown(t *testing.T) {
	u := shaped(func(q int) string { return fmt.Sprintf("p%d", (q+most-1)%most) })
	down := count(1, most)
	slices.Reverse(down)
	down = append([]int{0}, down...)
	mustWay(t, u, 0, 0, 1, nil, down)
	l, e := flow.Order(u, 0)
	mustList(t, "Order", l, e, down...)
	mustBack(t, u, 0, [2]int{1, 0})
	l, e = flow.Above(u, 0, 1)
	mustList(t, "Above", l, e, count(0, most)...)
	l, e = flow.Right(u, 0)
	mustList(t, "Right", l, e, append(append([]int{-1}, count(2, most)...), 0)...)
}

// All points go to one; a great many of them nobody reaches.
func TestGreatStar(t *testing.T) {
	u := shaped(func(int) string { return fmt.Sprintf("b%d,0", most-1) })
	l, e := flow.Before(u, 0, 0)
	mustList(t, "Before(0)", l, e, count(0, most)...)
	l, e = flow.Before(u, 0, most-1)
	mustList(t, "Before the last", l, e, count(0, most)...)
	l, e = flow.Reach(u, 0, 0)
	mustList(t, "Reach(0)", l, e, 0, most-1)
	l, e = flow.Order(u, 0)
	mustList(t, "Order", l, e, 0, most-1)
	mustBack(t, u, 0, [2]int{most - 1, most - 1}, [2]int{most - 1, 0}, [2]int{0, 0})
	l, e = flow.Right(u, 0)
	mustList(t, "Right", l, e, append(slices.Repeat([]int{-1}, most-1), 0)...)
	l, e = flow.Loop(u, 0, most-1, 0)
	mustList(t, "Loop", l, e, count(0, most)...)
	l, e = flow.Loop(u, 0, most-1, most-1)
	mustList(t, "Loop of the last", l, e, most-1)
	mustNotLoop(t, u, 0, 5, 0)
}

// Each point goes to its neighbours, and one comes in at both ends: what is above settles slowly, and nothing is above but 0.
func TestGreatLadder(t *testing.T) {
	u := shaped(func(q int) string {
		switch q {
		case 0:
			return fmt.Sprintf("b1,%d", most-1)
		case most - 1:
			return fmt.Sprintf("b1,%d", most-2)
		}
		return fmt.Sprintf("b%d,%d", q-1, q+1)
	})
	l, e := flow.Right(u, 0)
	mustList(t, "Right", l, e, append([]int{-1}, make([]int, most-1)...)...)
	for _, q := range []int{1, 2, 63, 64, 500, most - 2, most - 1} {
		l, e := flow.Above(u, 0, q)
		mustList(t, "Above", l, e, 0, q)
	}
	mustWay(t, u, 0, 0, 500, nil, count(0, 501))
	down := append(count(500, most), 0)
	slices.Reverse(down)
	mustWay(t, u, 0, 0, 500, []int{499}, down)
	mustWay(t, u, 0, 0, 500, []int{499, 501}, nil)
}

// Diamonds one behind the other: very many ways, of which the first one by number is told soon.
func TestGreatDiamonds(t *testing.T) {
	u := shaped(func(q int) string {
		switch {
		case q == most-1:
			return "r"
		case q%3 == 0:
			return fmt.Sprintf("b%d,%d", q+2, q+1)
		case q%3 == 1:
			return fmt.Sprintf("g%d", q+2)
		}
		return fmt.Sprintf("g%d", q+1)
	})
	var way, other, bends []int
	for q := range most {
		if q%3 != 2 {
			way = append(way, q)
		}
		if q%3 != 1 {
			other = append(other, q)
		}
		if q%3 == 1 {
			bends = append(bends, q)
		}
	}
	mustWay(t, u, 0, 0, most-1, nil, way)
	mustWay(t, u, 0, 0, most-1, bends, other)
	mustWay(t, u, 0, 0, most-1, []int{4, 5}, nil)
	l, e := flow.Above(u, 0, most-1)
	mustList(t, "Above", l, e, slices.DeleteFunc(count(0, most), func(q int) bool { return q%3 != 0 })...)
}

// P12.1: lists of as many points as there may be are taken, longer ones never, whatever is in them.
func TestLongLists(t *testing.T) {
	u := unitOf("b0,1 r")
	zeros := make([]int, most+1)
	mustIs(t, u, 0, zeros[:most], 0, true)
	mustWay(t, u, 0, 0, 1, zeros[:most], []int{0, 1})
	zeros[most-1] = 1
	mustIs(t, u, 0, zeros[:most], 0, true)
	mustWay(t, u, 0, 1, 0, zeros[:most], nil)
	zeros[most-2] = 1
	mustIs(t, u, 0, zeros[:most], most-1, false)
	for _, first := range []int{0, 1, -1, 2} {
		for _, length := range []int{most + 1, 1 << 20} {
			long := make([]int, length)
			long[0] = first
			if at, ok, e := flow.Is(u, 0, long...); at != 0 || ok || e != api.ErrArg {
				t.Errorf("Is of %d points: %d, %v, %v", length, at, ok, e)
			}
			if way, ok, e := flow.Way(u, 0, 0, 1, long...); len(way) != 0 || ok || e != api.ErrArg {
				t.Errorf("Way without %d points: %v, %v, %v", length, way, ok, e)
			}
		}
	}
}

// Graphs by chance of as many points as may be: the walk and what is above, against one another.
func TestGreatGraphsByChance(t *testing.T) {
	c := byChance(132)
	for range 4 {
		u := c.unit(most)
		x := plainOf(t, u, 0)
		order, back := x.walk()
		l, e := flow.Order(u, 0)
		mustList(t, "Order", l, e, order...)
		mustBack(t, u, 0, back...)
		right, e := flow.Right(u, 0)
		if e != api.OK {
			t.Fatal(e)
		}
		for range 30 {
			q, p := c.Intn(most), c.Intn(most)
			above, _ := flow.Above(u, 0, q)
			var up []int
			for o := q; o >= 0 && slices.Contains(order, q); o = right[o] {
				up = append(up, o)
			}
			slices.Sort(up)
			mustList(t, "Above", above, api.OK, up...)
			_, ok, _ := flow.Way(u, 0, 0, q, p)
			if reached := slices.Contains(order, q); slices.Contains(above, p) != (reached && (p == 0 || p == q || !ok)) {
				t.Errorf("Above(%d): %v; %d", q, above, p)
			}
		}
	}
}
