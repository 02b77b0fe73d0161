package live_test

import (
	"fmt"
	"slices"
	"testing"

	"loanword/api"
	"loanword/bits"
	"loanword/flow"
	"loanword/graph"
	"loanword/live"
)

// mustWhyHave asks whether there is a way.
func mustWhyHave(t *testing.T, u api.Unit, local, q int, want bool) {
	t.Helper()
	if way, ok, e := live.Why(u, 0, local, q); e != api.OK || ok != want {
		t.Fatalf("%s: Why(%d, %d): %v, %v, %v", textOf(u, 0), local, q, way, ok, e)
	}
}

// rowsOf are the rows that Of tells.
func rowsOf(t *testing.T, u api.Unit, fn int) []api.Row {
	t.Helper()
	rows, e := live.Of(u, fn)
	if e != api.OK {
		t.Fatal(e)
	}
	return rows
}

// units are some of which it is asked what follows: by the exported calls alone.
func units(t *testing.T, seed int64, count, points int) []api.Unit {
	c := byChance(seed)
	l := []api.Unit{example(), lowered(t, program)}
	for range count {
		l = append(l, c.unit(1+c.Intn(points)))
	}
	return l
}

// P14.4: the rows of Of are closed.
func TestOwnRowsAreClosed(t *testing.T) {
	for _, u := range units(t, 145, 100, 60) {
		for fn := range u.Fns {
			mustClosed(t, u, fn, rowsOf(t, u, fn), 0, 0, true)
		}
	}
}

// P14.4: of all rows of small graphs those that are closed have all bits of Of's; some have more.
func TestLeastOfAllRows(t *testing.T) {
	met, more := 0, 0
	each(3, func(u api.Unit) {
		if met++; met%3 != 0 {
			return
		}
		least := rowsOf(t, u, 0)
		for set := range uint64(8) {
			for local := range 2 {
				rows := slices.Clone(least)
				rows[local] = api.Row{Width: 3, Words: []uint64{set}}
				at, _, ok, e := live.Closed(u, 0, rows)
				if e != api.OK || !ok && at != local {
					t.Fatalf("%s: %b: %d, %v, %v", textOf(u, 0), set, at, ok, e)
				}
				if !ok {
					continue
				}
				has, _ := bits.Has(rows[local], least[local])
				if !has {
					t.Fatalf("%s: %b of local %d is closed, and has not %v", textOf(u, 0), set, local, listsOf(least))
				}
				if set != least[local].Words[0] {
					more++
				}
			}
		}
	})
	if more < 1000 {
		t.Errorf("%d rows more than the least", more)
	}
}

// P14.4: rows that are grown from any ones till they are closed have all bits of Of's.
func TestGrownRowsHaveTheLeast(t *testing.T) {
	c := byChance(146)
	for _, u := range units(t, 147, 30, 20) {
		g := u.Fns[0]
		least := rowsOf(t, u, 0)
		rows := c.rows(len(g.Locals), len(g.Points))
		for {
			local, at, ok, e := live.Closed(u, 0, rows)
			if e != api.OK {
				t.Fatal(e)
			}
			if ok {
				break
			}
			if bits.Get(rows[local], at) {
				t.Fatalf("%s: local %d has %d", textOf(u, 0), local, at)
			}
			rows[local], _ = bits.Set(rows[local], at)
		}
		for local, r := range rows {
			if has, _ := bits.Has(r, least[local]); !has {
				t.Fatalf("%s: local %d: %v, the least %v", textOf(u, 0), local, listsOf(rows)[local], listsOf(least)[local])
			}
		}
	}
}

// P14.4: grown from nothing they are the least ones.
func TestGrownFromNothing(t *testing.T) {
	for _, u := range units(t, 148, 30, 15) {
		g := u.Fns[0]
		rows := slices.Repeat([]api.Row{rowOf(len(g.Points))}, len(g.Locals))
		for {
			local, at, ok, _ := live.Closed(u, 0, rows)
			if ok {
				break
			}
			rows[local], _ = bits.Set(rows[local], at)
		}
		mustOf(t, u, 0, listsOf(rows)...)
	}
}

// P14.5: it is live at q just if q uses it, or it does not end there and is live at a successor; At and Of say the same.
func TestLivePointByPoint(t *testing.T) {
	for _, u := range units(t, 149, 60, 40) {
		for fn, g := range u.Fns {
			rows := rowsOf(t, u, fn)
			for q := range g.Points {
				used, _ := live.Uses(u, fn, q)
				ended, ends, _ := live.Ends(u, fn, q)
				next, _ := graph.Next(u, fn, q)
				here, _ := live.At(u, fn, q)
				for local, r := range rows {
					onward := slices.ContainsFunc(next, func(p int) bool { return bits.Get(r, p) })
					is := slices.Contains(used, local) || !(ends && ended == local) && onward
					if bits.Get(r, q) != is || slices.Contains(here, local) != is {
						t.Fatalf("%s: local %d at %d: %v, At %v; want %v", textOf(u, fn), local, q, bits.Get(r, q), here, is)
					}
				}
			}
		}
	}
}

// P14.5: Why is a way, begins at q, ends at a use; ahead of that the local does not end, and is live; there is one just if it is live at q.
func TestWhyIsAWay(t *testing.T) {
	for _, u := range units(t, 150, 20, 25) {
		for fn, g := range u.Fns {
			rows := rowsOf(t, u, fn)
			for local, r := range rows {
				for q := range g.Points {
					way, ok, e := live.Why(u, fn, local, q)
					if e != api.OK || ok != bits.Get(r, q) || ok != (len(way) > 0) {
						t.Fatalf("%s: Why(%d, %d): %v, %v, %v", textOf(u, fn), local, q, way, ok, e)
					}
					if ok {
						mustBeWhy(t, u, fn, local, q, way, r)
					}
				}
			}
		}
	}
}

func mustBeWhy(t *testing.T, u api.Unit, fn, local, q int, way []int, row api.Row) {
	t.Helper()
	what := fmt.Sprintf("%s: Why(%d, %d): %v", textOf(u, fn), local, q, way)
	if _, is, e := flow.Is(u, fn, way...); !is || e != api.OK || way[0] != q {
		t.Fatalf("%s: %v, %v", what, is, e)
	}
	for k, p := range way {
		used, _ := live.Uses(u, fn, p)
		ended, ends, _ := live.Ends(u, fn, p)
		if slices.Contains(used, local) != (k == len(way)-1) || ends && ended == local || !bits.Get(row, p) {
			t.Fatalf("%s: at %d: uses %v, ends %d %v, live %v", what, p, used, ended, ends, bits.Get(row, p))
		}
	}
}

// P14.6: with a point more behind the last one, whatever it does, of which nobody is a successor, no local is live elsewhere at the points that were there.
func TestPointMore(t *testing.T) {
	c := byChance(151)
	for _, u := range units(t, 152, 150, 20) {
		before := rowsOf(t, u, 0)
		g := u.Fns[0]
		width := len(g.Points)
		p := api.Point{Op: api.Return}
		if len(g.Locals) == 14 { // the scene's
			p = pointOf(mentions[c.Intn(len(mentions))].text, 0)
		}
		if p.Op != api.Return {
			p.Next = c.Intn(width + 1)
		}
		if p.Op == api.Branch {
			p.Else = c.Intn(width + 1)
		}
		if p.Next == width || p.Else == width { // it would be a successor of itself
			p.Next, p.Else = 0, 0
		}
		u.Fns[0].Points = append(slices.Clone(g.Points), p)
		mustMay(t, u)
		for local, r := range rowsOf(t, u, 0) {
			got := slices.Collect(bits.Each(r))
			got = slices.DeleteFunc(got, func(q int) bool { return q == width })
			if want := slices.Collect(bits.Each(before[local])); r.Width != width+1 || !slices.Equal(got, want) {
				t.Fatalf("%s: local %d: %v, was %v", textOf(u, 0), local, got, want)
			}
		}
		for q := range width {
			l, _ := live.At(u, 0, q)
			for local, r := range before {
				if slices.Contains(l, local) != bits.Get(r, q) {
					t.Fatalf("%s: At(%d): %v", textOf(u, 0), q, l)
				}
			}
		}
	}
}
