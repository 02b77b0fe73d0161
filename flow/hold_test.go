package flow_test

import (
	"fmt"
	"slices"
	"testing"

	"loanword/api"
	"loanword/flow"
)

// mustHold asks all calls but Way and Is of a graph, whatever they can be asked, against the oracle.
func mustHold(t *testing.T, u api.Unit, fn int) {
	t.Helper()
	x := plainOf(t, u, fn)
	text := textOf(u.Fns[fn])
	reaches, above := x.reaches(-1), x.above()
	for q := range x.next {
		l, e := flow.Before(u, fn, q)
		mustList(t, fmt.Sprintf("%s: Before(%d)", text, q), l, e, x.before(q)...)
		l, e = flow.Reach(u, fn, q)
		mustList(t, fmt.Sprintf("%s: Reach(%d)", text, q), l, e, x.where(func(p int) bool { return reaches[q][p] })...)
		l, e = flow.Above(u, fn, q)
		mustList(t, fmt.Sprintf("%s: Above(%d)", text, q), l, e, above[q]...)
	}
	order, back := x.walk()
	l, e := flow.Order(u, fn)
	mustList(t, text+": Order", l, e, order...)
	mustBack(t, u, fn, back...)
	l, e = flow.Right(u, fn)
	mustList(t, text+": Right", l, e, x.right()...)
	for from := range x.next {
		for to := range x.next {
			if !x.goes(from, to) && (from+to)%7 != 0 { // most are no edges at all
				continue
			}
			if want := x.loop(from, to); want == nil {
				mustNotLoop(t, u, fn, from, to)
			} else {
				l, e = flow.Loop(u, fn, from, to)
				mustList(t, fmt.Sprintf("%s: Loop(%d, %d)", text, from, to), l, e, want...)
			}
		}
	}
}

// each is called with all graphs of so many points.
func each(points int, ask func(u api.Unit)) {
	choices := []string{"r"}
	for a := range points {
		choices = append(choices, fmt.Sprintf("g%d", a))
		for b := range points {
			choices = append(choices, fmt.Sprintf("b%d,%d", a, b))
		}
	}
	var fill func(chosen ...string)
	fill = func(chosen ...string) {
		if len(chosen) == points {
			ask(api.Unit{Fns: []api.Graph{graphOf(chosen...)}})
			return
		}
		for _, s := range choices {
			fill(append(slices.Clone(chosen), s)...)
		}
	}
	fill()
}

// P12.1 to P12.3: all graphs of up to three points.
func TestAllSmallGraphs(t *testing.T) {
	count := 0
	for points := 1; points <= 3; points++ {
		each(points, func(u api.Unit) {
			count++
			mustHold(t, u, 0)
		})
	}
	if count != 3+49+2197 {
		t.Errorf("%d graphs", count)
	}
}

// P12.1: Way of all graphs of up to three points, whatever is left out; Is of all lists of up to three numbers.
func TestAllSmallWays(t *testing.T) {
	for points := 1; points <= 3; points++ {
		each(points, func(u api.Unit) {
			x := plainOf(t, u, 0)
			for from := range points {
				ways := x.ways(from)
				for set := range 1 << points {
					without := x.where(func(q int) bool { return set>>q&1 != 0 })
					for to := range points {
						mustWay(t, u, 0, from, to, without, wayAmong(ways, to, without))
					}
				}
			}
			if points < 3 {
				mustKnowWays(t, u, x, 4)
			}
		})
	}
}

// mustKnowWays asks Is of all lists of up to so many numbers, some of them no points.
func mustKnowWays(t *testing.T, u api.Unit, x plain, most int, list ...int) {
	t.Helper()
	at, ok := x.is(list)
	mustIs(t, u, 0, list, at, ok)
	if len(list) == most {
		return
	}
	for q := -1; q <= len(x.next); q++ {
		mustKnowWays(t, u, x, most, append(slices.Clone(list), q)...)
	}
}

// P12.1 to P12.3: graphs by chance.
func TestGraphsByChance(t *testing.T) {
	c := byChance(121)
	for range 150 {
		mustHold(t, c.unit(4+c.Intn(9)), 0)
	}
	for range 12 {
		mustHold(t, c.unit(20+c.Intn(30)), 0)
	}
}

// P12.1: ways of graphs by chance, held against all ways that there are.
func TestWaysByChance(t *testing.T) {
	c := byChance(122)
	for range 60 {
		points := 4 + c.Intn(7)
		u := c.unit(points)
		x := plainOf(t, u, 0)
		for from := range points {
			ways := x.ways(from)
			for to := range points {
				for most := range 5 {
					without := c.some(points, most)
					want := wayAmong(ways, to, without)
					if !slices.Equal(want, x.way(from, to, without)) {
						t.Fatalf("two oracles: %s: %d, %d, %v", textOf(u.Fns[0]), from, to, without)
					}
					mustWay(t, u, 0, from, to, without, want)
				}
			}
			for range 20 {
				list := slices.Clone(ways[c.Intn(len(ways))])
				mustIs(t, u, 0, list, 0, true)
				list[c.Intn(len(list))] = c.Intn(points+2) - 1
				at, ok := x.is(list)
				mustIs(t, u, 0, list, at, ok)
			}
		}
	}
}

// some are so many points, maybe some twice.
func (c chance) some(points, count int) []int {
	var l []int
	for range count {
		l = append(l, c.Intn(points))
	}
	return l
}

// P12.1: ways of greater graphs by chance.
func TestLongWaysByChance(t *testing.T) {
	c := byChance(123)
	for range 60 {
		points := 20 + c.Intn(60)
		u := c.unit(points)
		x := plainOf(t, u, 0)
		for range 60 {
			from, to, without := c.Intn(points), c.Intn(points), c.some(points, c.Intn(20))
			mustWay(t, u, 0, from, to, without, x.way(from, to, without))
		}
	}
}

// P12.1 to P12.3: graphs that come of a text, with points of each Op; which function is asked counts.
func TestLoweredPrograms(t *testing.T) {
	u := lowered(t, program)
	ops := map[api.PointOp]bool{}
	for fn, g := range u.Fns {
		mustHold(t, u, fn)
		x := plainOf(t, u, fn)
		for q, p := range g.Points {
			ops[p.Op] = true
			for to := 0; to < len(g.Points); to += 3 {
				mustWay(t, u, fn, q, to, nil, x.way(q, to, nil))
				mustWay(t, u, fn, q, to, x.before(to), x.way(q, to, x.before(to)))
			}
		}
	}
	if len(ops) != 14 {
		t.Errorf("%d Ops", len(ops))
	}
}
