package flow_test

import (
	"slices"
	"testing"

	"loanword/api"
	"loanword/flow"
	"loanword/graph"
)

// units are some to which it is asked what follows: by the exported calls alone.
func units(t *testing.T, seed int64, count, points int) []api.Unit {
	c := byChance(seed)
	l := []api.Unit{unitOf(example), lowered(t, program)}
	for range count {
		l = append(l, c.unit(1+c.Intn(points)))
	}
	return l
}

func listOf(t *testing.T, l []int, e api.Errno) []int {
	t.Helper()
	if e != api.OK {
		t.Fatal(e)
	}
	return l
}

// P12.4: of what is reached all is reached, and it itself is; nothing else is without a point ahead.
func TestReachIsClosed(t *testing.T) {
	for _, u := range units(t, 124, 60, 30) {
		for from := range u.Fns[0].Points {
			l, e := flow.Reach(u, 0, from)
			reached := listOf(t, l, e)
			if !slices.Contains(reached, from) || !slices.IsSorted(reached) || len(slices.Compact(slices.Clone(reached))) != len(reached) {
				t.Fatalf("%s: Reach(%d): %v", textOf(u.Fns[0]), from, reached)
			}
			for _, q := range reached {
				next, e := graph.Next(u, 0, q)
				further, e2 := flow.Reach(u, 0, q)
				for _, p := range append(listOf(t, next, e), listOf(t, further, e2)...) {
					if !slices.Contains(reached, p) {
						t.Fatalf("%s: Reach(%d): %v is without %d", textOf(u.Fns[0]), from, reached, p)
					}
				}
			}
		}
	}
}

// P12.4: Way is a way; it begins and ends where it must; there is one just if the point is reached; each cut out of it is a shortest one, too.
func TestWayIsAWay(t *testing.T) {
	for _, u := range units(t, 125, 40, 25) {
		text := textOf(u.Fns[0])
		for from := range u.Fns[0].Points {
			l, e := flow.Reach(u, 0, from)
			reached := listOf(t, l, e)
			for to := range u.Fns[0].Points {
				way, ok, e := flow.Way(u, 0, from, to)
				if e != api.OK || ok != slices.Contains(reached, to) || !ok && len(way) != 0 {
					t.Fatalf("%s: Way(%d, %d): %v, %v, %v", text, from, to, way, ok, e)
				}
				if !ok {
					continue
				}
				mustIs(t, u, 0, way, 0, true)
				if way[0] != from || way[len(way)-1] != to {
					t.Fatalf("%s: Way(%d, %d): %v", text, from, to, way)
				}
				middle := len(way) / 2
				mustWay(t, u, 0, from, way[middle], nil, way[:middle+1])
				mustWay(t, u, 0, way[middle], to, nil, way[middle:])
			}
		}
	}
}

// P12.4: no way of fewer points: what comes behind a point is at most one point further than it.
func TestNoWayIsShorter(t *testing.T) {
	for _, u := range units(t, 126, 40, 25) {
		for from := range u.Fns[0].Points {
			for q := range u.Fns[0].Points {
				way, ok, _ := flow.Way(u, 0, from, q)
				next, e := graph.Next(u, 0, q)
				for _, p := range listOf(t, next, e) {
					further, reached, _ := flow.Way(u, 0, from, p)
					if ok && (!reached || len(further) > len(way)+1) {
						t.Fatalf("%s: from %d to %d: %v; to %d: %v", textOf(u.Fns[0]), from, q, way, p, further)
					}
				}
			}
		}
	}
}

// P12.5: what is reached stands in the order once, 0 first, behind all that is above it; the edges along which the order falls or stays are those back.
func TestOrderFollows(t *testing.T) {
	for _, u := range units(t, 127, 150, 60) {
		text := textOf(u.Fns[0])
		l, e := flow.Order(u, 0)
		order := listOf(t, l, e)
		l, e = flow.Reach(u, 0, 0)
		if reached := listOf(t, l, e); !slices.Equal(slices.Sorted(slices.Values(order)), reached) || order[0] != 0 {
			t.Fatalf("%s: %v; reached %v", text, order, reached)
		}
		back, e := flow.Back(u, 0)
		if e != api.OK {
			t.Fatal(e)
		}
		edges := 0
		for k, q := range order {
			above, e := flow.Above(u, 0, q)
			for _, p := range listOf(t, above, e) {
				if at := slices.Index(order, p); at > k || at < 0 {
					t.Fatalf("%s: %v: %d is above %d", text, order, p, q)
				}
			}
			next, e := graph.Next(u, 0, q)
			for _, p := range listOf(t, next, e) {
				falls := slices.Index(order, p) <= k
				if falls {
					edges++
				}
				if falls != slices.Contains(back, [2]int{q, p}) {
					t.Fatalf("%s: %v: from %d to %d; back: %v", text, order, q, p, back)
				}
			}
		}
		if edges != len(back) {
			t.Fatalf("%s: %v: back: %v", text, order, back)
		}
	}
}

// P12.5: without the edges back no way comes to a point twice.
func TestWithoutEdgesBack(t *testing.T) {
	rounds := 0
	for _, u := range units(t, 128, 150, 40) {
		back, _ := flow.Back(u, 0)
		next := make([][]int, len(u.Fns[0].Points))
		for q := range next {
			l, _ := flow.Reach(u, 0, 0)
			if !slices.Contains(l, q) {
				continue
			}
			l, _ = graph.Next(u, 0, q)
			for _, p := range l {
				if !slices.Contains(back, [2]int{q, p}) {
					next[q] = append(next[q], p)
				}
			}
		}
		if goesRound(next) {
			t.Fatalf("%s: back: %v", textOf(u.Fns[0]), back)
		}
		if len(back) > 0 {
			rounds++
		}
	}
	if rounds < 50 {
		t.Errorf("only %d graphs go round", rounds)
	}
}

// goesRound tells whether there is a way of more points than there are, so that it comes to one twice.
func goesRound(next [][]int) bool {
	at := make([]bool, len(next))
	for q := range at {
		at[q] = true
	}
	for range next {
		further := make([]bool, len(next))
		for q, l := range next {
			for _, p := range l {
				further[p] = further[p] || at[q]
			}
		}
		at = further
	}
	return slices.Contains(at, true)
}

// P12.6: above are just those points without which there is no way from 0, and both ends.
func TestAboveIsOnAllWays(t *testing.T) {
	for _, u := range units(t, 129, 60, 25) {
		for q := range u.Fns[0].Points {
			_, reached, _ := flow.Way(u, 0, 0, q)
			l, e := flow.Above(u, 0, q)
			above := listOf(t, l, e)
			for p := range u.Fns[0].Points {
				_, ok, _ := flow.Way(u, 0, 0, q, p)
				must := reached && (p == 0 || p == q || !ok)
				if slices.Contains(above, p) != must {
					t.Fatalf("%s: Above(%d): %v; %d must be there: %v", textOf(u.Fns[0]), q, above, p, must)
				}
			}
		}
	}
}

// P12.6: the point right above, what is right above that, and so on, is what is above.
func TestRightLeadsUp(t *testing.T) {
	for _, u := range units(t, 130, 100, 60) {
		l, e := flow.Right(u, 0)
		right := listOf(t, l, e)
		reached, _ := flow.Reach(u, 0, 0)
		for q := range u.Fns[0].Points {
			if (right[q] < 0) != (q == 0 || !slices.Contains(reached, q)) {
				t.Fatalf("%s: Right: %v", textOf(u.Fns[0]), right)
			}
			var up []int
			for p := q; p >= 0 && slices.Contains(reached, q); p = right[p] {
				up = append(up, p)
			}
			l, e := flow.Above(u, 0, q)
			slices.Sort(up)
			mustList(t, textOf(u.Fns[0])+": Above", l, e, up...)
		}
	}
}

// P12.3: into a loop one comes, as far as what is reached goes, by its first point alone.
func TestLoopHasOneEntry(t *testing.T) {
	loops := 0
	for _, u := range units(t, 131, 100, 30) {
		back, _ := flow.Back(u, 0)
		reached, _ := flow.Reach(u, 0, 0)
		for _, edge := range back {
			from, to := edge[0], edge[1]
			l, e := flow.Loop(u, 0, from, to)
			if above, _ := flow.Above(u, 0, from); !slices.Contains(above, to) {
				mustNotLoop(t, u, 0, from, to)
				continue
			}
			loops++
			for _, q := range listOf(t, l, e) {
				ahead, _ := flow.Before(u, 0, q)
				for _, p := range ahead {
					if q != to && !slices.Contains(l, p) {
						t.Fatalf("%s: Loop(%d, %d): %v: from %d to %d", textOf(u.Fns[0]), from, to, l, p, q)
					}
				}
				above, _ := flow.Above(u, 0, q)
				if slices.Contains(reached, q) && !slices.Contains(above, to) {
					t.Fatalf("%s: Loop(%d, %d): %v: %d is not above %d", textOf(u.Fns[0]), from, to, l, to, q)
				}
			}
		}
	}
	if loops < 50 {
		t.Errorf("only %d loops", loops)
	}
}
