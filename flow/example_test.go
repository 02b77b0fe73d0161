package flow_test

import (
	"testing"

	"loanword/flow"
)

// P12.1 to P12.3: the chapter's examples.
func TestExamples(t *testing.T) {
	u := unitOf(example)
	for q, want := range map[int][]int{0: nil, 1: {0, 2}, 2: {1}, 5: {3, 4}, 6: nil} {
		l, e := flow.Before(u, 0, q)
		mustList(t, "Before", l, e, want...)
	}
	for q, want := range map[int][]int{0: {0, 1, 2, 3, 4, 5}, 2: {1, 2, 3, 5}, 5: {5}, 6: {6}} {
		l, e := flow.Reach(u, 0, q)
		mustList(t, "Reach", l, e, want...)
	}
	mustWay(t, u, 0, 0, 5, nil, []int{0, 4, 5})
	mustWay(t, u, 0, 0, 5, []int{4}, []int{0, 1, 2, 3, 5})
	mustWay(t, u, 0, 0, 6, nil, nil)
	mustWay(t, u, 0, 2, 2, nil, []int{2})
	l, e := flow.Order(u, 0)
	mustList(t, "Order", l, e, 0, 4, 1, 2, 3, 5)
	mustBack(t, u, 0, [2]int{2, 1})
	for q, want := range map[int][]int{0: {0}, 3: {0, 1, 2, 3}, 5: {0, 5}, 6: nil} {
		l, e := flow.Above(u, 0, q)
		mustList(t, "Above", l, e, want...)
	}
	l, e = flow.Right(u, 0)
	mustList(t, "Right", l, e, -1, 0, 1, 2, 0, 0, -1)
	l, e = flow.Loop(u, 0, 2, 1)
	mustList(t, "Loop", l, e, 1, 2)
	mustNotLoop(t, u, 0, 0, 1)
	mustIs(t, u, 0, []int{0, 4, 5}, 0, true)
	mustIs(t, u, 0, []int{0, 5}, 1, false)
	mustIs(t, u, 0, nil, 0, false)
}

// P12.1: a Branch to one point twice comes there once; a point may be ahead of itself.
func TestBefore(t *testing.T) {
	u := unitOf("b1,1 b1,0 p1 r g3 b3,4")
	for q, want := range [][]int{{1}, {0, 1, 2}, nil, {4, 5}, {5}, nil} {
		l, e := flow.Before(u, 0, q)
		mustList(t, "Before", l, e, want...)
	}
}

// P12.1: what is left out may stand at the ends; of ways of equally many points the first one by number is told, whichever successor is Next.
func TestWay(t *testing.T) {
	u := unitOf("b5,1 b4,3 r b6,6 b6,2 b2,3 b0,7 r")
	mustWay(t, u, 0, 0, 7, nil, []int{0, 1, 3, 6, 7})
	mustWay(t, u, 0, 0, 7, []int{0, 7}, []int{0, 1, 3, 6, 7})
	mustWay(t, u, 0, 0, 7, []int{3, 3}, []int{0, 1, 4, 6, 7})
	mustWay(t, u, 0, 0, 7, []int{1}, []int{0, 5, 3, 6, 7})
	mustWay(t, u, 0, 0, 7, []int{4, 3}, nil)
	mustWay(t, u, 0, 0, 7, []int{6, 0}, nil)
	mustWay(t, u, 0, 0, 2, nil, []int{0, 5, 2})
	mustWay(t, u, 0, 6, 6, []int{6}, []int{6})
	mustWay(t, u, 0, 6, 1, []int{6, 1}, []int{6, 0, 1})
	mustWay(t, u, 0, 6, 1, []int{0}, nil)
	mustWay(t, u, 0, 2, 2, []int{0, 1, 2, 3, 4, 5, 6, 7}, []int{2})
	mustWay(t, u, 0, 6, 7, []int{0, 1, 2, 3, 4, 5, 6, 7}, []int{6, 7})
	mustWay(t, u, 0, 7, 6, nil, nil)
}

// P12.1: a way may come to a point twice; numbers that are no points end it.
func TestIs(t *testing.T) {
	u := unitOf("b1,0 b2,0 r")
	mustIs(t, u, 0, []int{0, 0, 0, 1, 0, 1, 2}, 0, true)
	mustIs(t, u, 0, []int{2}, 0, true)
	mustIs(t, u, 0, []int{2, 2}, 1, false)
	mustIs(t, u, 0, []int{0, 1, 1, 9}, 2, false)
	mustIs(t, u, 0, []int{0, 1, 2, 3}, 3, false)
	mustIs(t, u, 0, []int{0, -1, 2}, 1, false)
	mustIs(t, u, 0, []int{3}, 0, false)
	mustIs(t, u, 0, []int{-1, 0}, 0, false)
	mustIs(t, u, 0, []int{-1 << 63, 1<<63 - 1}, 0, false)
}

// P12.2: the walk looks at Next ahead of Else, at Else when it is back; an edge to what it has left is none back.
func TestWalk(t *testing.T) {
	for _, x := range []struct {
		points string
		order  []int
		back   [][2]int
	}{
		{"r", []int{0}, nil},
		{"g0", []int{0}, [][2]int{{0, 0}}},
		{"b0,0", []int{0}, [][2]int{{0, 0}}},
		{"b1,2 r r", []int{0, 2, 1}, nil},
		{"b2,1 r r", []int{0, 1, 2}, nil},
		{"b1,2 g2 r", []int{0, 1, 2}, nil},
		{"b2,1 g2 r", []int{0, 1, 2}, nil},
		{"b1,2 b0,1 b1,0", []int{0, 2, 1}, [][2]int{{1, 0}, {1, 1}, {2, 0}}},
		{"b1,2 b1,2 b0,1", []int{0, 1, 2}, [][2]int{{1, 1}, {2, 0}, {2, 1}}},
		{"b1,0 b2,0 b0,2", []int{0, 1, 2}, [][2]int{{2, 0}, {2, 2}, {1, 0}, {0, 0}}},
		{"g3 g0 r b2,1", []int{0, 3, 1, 2}, [][2]int{{1, 0}}},
		{"g2 g2 g0", []int{0, 2}, [][2]int{{2, 0}}},
	} {
		u := unitOf(x.points)
		l, e := flow.Order(u, 0)
		mustList(t, x.points, l, e, x.order...)
		mustBack(t, u, 0, x.back...)
	}
}

// P12.2: two ways into what goes round, so that neither lies above the other; points that nobody reaches lead into what is reached.
func TestAbove(t *testing.T) {
	u := unitOf("b1,2 b2,3 b1,4 g5 g5 b1,6 r g3 g7")
	l, e := flow.Right(u, 0)
	mustList(t, "Right", l, e, -1, 0, 0, 1, 2, 0, 5, -1, -1)
	for q, want := range [][]int{{0}, {0, 1}, {0, 2}, {0, 1, 3}, {0, 2, 4}, {0, 5}, {0, 5, 6}, nil, nil} {
		l, e := flow.Above(u, 0, q)
		mustList(t, "Above", l, e, want...)
	}
	mustNotLoop(t, u, 0, 1, 2)
	mustNotLoop(t, u, 0, 2, 1)
	mustNotLoop(t, u, 0, 5, 1)
}

// P12.3: a point round itself; loops in one another; what leaves a loop is none of it; what nobody reaches is in it, if it leads there.
func TestLoop(t *testing.T) {
	u := unitOf("g1 b2,8 b3,7 b3,4 b2,5 b6,9 g1 g6 r r g4 g10 g2 g13 g14 g13")
	l, e := flow.Loop(u, 0, 3, 3)
	mustList(t, "round itself", l, e, 3)
	l, e = flow.Loop(u, 0, 4, 2)
	mustList(t, "the inner one", l, e, 2, 3, 4, 10, 11)
	l, e = flow.Loop(u, 0, 6, 1)
	mustList(t, "the outer one", l, e, 1, 2, 3, 4, 5, 6, 7, 10, 11, 12)
	mustNotLoop(t, u, 0, 5, 1)   // no successor
	mustNotLoop(t, u, 0, 2, 3)   // not above
	mustNotLoop(t, u, 0, 11, 10) // not reached
	mustNotLoop(t, u, 0, 15, 13)
	mustNotLoop(t, unitOf("r g1"), 0, 1, 1)
	l, e = flow.Loop(unitOf("g0"), 0, 0, 0)
	mustList(t, "one point", l, e, 0)
	l, e = flow.Loop(unitOf("b0,1 g0 r g1"), 0, 1, 0)
	mustList(t, "all", l, e, 0, 1, 3)
	l, e = flow.Loop(unitOf("b0,1 g0 r g1"), 0, 0, 0)
	mustList(t, "0 round itself", l, e, 0)
}
