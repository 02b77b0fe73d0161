package rules_test

import (
	"reflect"
	"slices"
	"testing"

	"loanword/api"
	"loanword/graph"
	"loanword/rules"
)

// roomy is a list in memory of its own, with room behind its end into which nobody may lay anything.
func roomy[T any](l []T, room T) []T {
	long := append(slices.Clone(l), room, room, room)
	return long[:len(l):len(long)]
}

// hasRoom tells whether nothing lies behind a list's end but what was laid there.
func hasRoom[T comparable](l []T, room T) bool {
	return slices.Equal(l[len(l):len(l)+3], []T{room, room, room})
}

// pathLists are all lists of steps of a unit's points.
func pathLists(u api.Unit) []*[]api.Step {
	var l []*[]api.Step
	for _, g := range u.Fns {
		for q := range g.Points {
			p := &g.Points[q]
			l = append(l, &p.To.Path, &p.From.Path, &p.A.Place.Path, &p.B.Place.Path)
			for k := range p.Args {
				l = append(l, &p.Args[k].Place.Path)
			}
		}
	}
	return slices.DeleteFunc(l, func(path *[]api.Step) bool { return len(*path) == 0 })
}

// askAll asks all calls, and answers the lists that they answer.
func askAll(u api.Unit, all api.Cert) [][]api.Broken {
	var l [][]api.Broken
	for fn, c := range all.Fns {
		of, _ := rules.Broken(u, fn, c)
		l = append(l, of)
		for r := api.RuleSize; r <= api.RuleUse; r++ {
			of, _ := rules.Rule(u, fn, c, r)
			l = append(l, of)
		}
		rules.First(u, fn, c)
		rules.Keeps(u, fn)
	}
	rules.Unit(u, all)
	rules.Program(u)
	return l
}

// What is handed in stays as it is, the room behind its lists' ends, too; no two lists that are answered share memory.
func TestNothingIsChanged(t *testing.T) {
	c := byChance(187)
	for range 15 {
		u, _ := graph.Own(c.unit(1 + c.Intn(10)))
		for _, path := range pathLists(u) {
			*path = roomy(*path, 7)
		}
		for fn := range u.Fns {
			g := &u.Fns[fn]
			g.Locals, g.Names, g.Points = roomy(g.Locals, api.Type{Kind: 99}), roomy(g.Names, "room"), roomy(g.Points, api.Point{Op: 99})
			g.Outlives = roomy(g.Outlives, api.Outlives{Long: 7})
		}
		before, e := graph.Own(u)
		if e != api.OK {
			t.Fatal(e)
		}
		var all, were api.Cert
		for fn := range u.Fns {
			x := c.rows(whole(t, u, fn), 3)
			were.Fns = append(were.Fns, own(x))
			for _, rows := range [][]api.Row{x.Rows, x.Ranges, x.Moves} {
				for k, r := range rows {
					rows[k].Words = roomy(r.Words, 7)
				}
			}
			all.Fns = append(all.Fns, x)
		}
		answers := slices.Concat(askAll(u, all), askAll(u, all))
		mustBeAsItWas(t, u, before, all, were)
		mustBeApart(t, answers)
	}
}

func mustBeAsItWas(t *testing.T, u, before api.Unit, all, were api.Cert) {
	t.Helper()
	if !graph.Same(u, before) {
		t.Fatal("the unit was changed")
	}
	for _, path := range pathLists(u) {
		if !hasRoom(*path, 7) {
			t.Fatal("something lies behind a path's end")
		}
	}
	for _, g := range u.Fns {
		if !hasRoom(g.Names, "room") || !hasRoom(g.Outlives, api.Outlives{Long: 7}) || g.Locals[:len(g.Locals)+1][len(g.Locals)].Kind != 99 || g.Points[:len(g.Points)+1][len(g.Points)].Op != 99 {
			t.Fatal("something lies behind the end of a graph's list")
		}
	}
	for fn, c := range all.Fns {
		if !reflect.DeepEqual(own(c), were.Fns[fn]) {
			t.Fatal("a row was changed")
		}
		for _, r := range slices.Concat(c.Rows, c.Ranges, c.Moves) {
			if !hasRoom(r.Words, 7) {
				t.Fatal("something lies behind a row's end")
			}
		}
	}
}

// mustBeApart asks that no two of these lists have memory in common.
func mustBeApart(t *testing.T, l [][]api.Broken) {
	t.Helper()
	met := map[*api.Broken]bool{}
	for _, list := range l {
		for k := range list[:cap(list)] {
			x := &list[:cap(list)][k]
			if met[x] {
				t.Fatal("two lists share memory")
			}
			met[x] = true
		}
	}
}

// Nothing is kept from call to call: what is changed by whoever was answered, what was handed in and is another thing now, and what was refused, is not to be seen in the next answer.
func TestNothingIsKept(t *testing.T) {
	u := small()
	all := allOf(t, u)
	c := all.Fns[1]
	was := u.Fns[1].Points[6]
	for range 3 {
		clear(brokenOf(t, u, 1, whole(t, u, 1)))
		mustTell(t, u, 1, c, "")
		c.Moves[0].Words[0] ^= 1
		mustTell(t, u, 1, c, "moved 0 0")
		c.Moves[0].Words[0] ^= 1
		mustKeep(t, u, 1, true)
		u.Fns[1].Points[6] = pointOf("_1 = copy _3", 6)
		mustAnswer(t, "a unit that may not be", u, 1, c, all, everything, api.OK)
		u.Fns[1].Points[6] = pointOf("_2 = f3(move _2, move _2)", 6)
		u.Fns[2] = graphOf(0, 2, "Box<i64>; Box<i64>; Box<i64>", "goto -> 0")
		mustAnswer(t, "a Call of another function", u, 1, c, all, everything, api.OK)
		u.Fns[2] = outlives(graphOf(2, 1, "&'1 i64; &'0 i64", "goto -> 0"), "1:0")
		u.Fns[1].Points[6] = pointOf("print copy _2.*", 6)
		mustTell(t, u, 1, c, "")
		u.Fns[1].Points[3].Next = 6 // _3 has lent _2.*, but is used no more
		mustKeep(t, u, 1, true)
		u.Fns[1].Points[6] = pointOf("_3.* = copy _2.*", 6)
		mustKeep(t, u, 1, false)
		u.Fns[1].Points[3].Next, u.Fns[1].Points[6] = 4, was
	}
}

// Which function is asked counts, and of the others but what is called: of that but its head.
func TestOthersDoNotMatter(t *testing.T) {
	u := small()
	c := leastOf(t, u, 1)
	for range 2 {
		mustTell(t, u, 1, c, "")
		u.Fns[2] = outlives(graphOf(2, 1, "&'1 i64; &'0 i64; i64; Box<i64>", "_3 = move _3; _0 = & _2; return"), "1:0")
		mustMay(t, u)
		mustTell(t, u, 1, c, "")
		mustKeep(t, u, 1, true)
		mustKeep(t, u, 2, false)
		mustKeepAll(t, u, 2)
		u.Fns[2] = outlives(graphOf(2, 1, "&'1 i64; &'0 i64", "goto -> 0"), "1:0")
		mustKeepAll(t, u, -1)
	}
}
