package move_test

import (
	"reflect"
	"slices"
	"testing"

	"loanword/api"
	"loanword/graph"
	"loanword/move"
	"loanword/place"
)

// memory is that of all lists in a value, with what lies behind their ends.
func memory(v reflect.Value) [][2]uintptr {
	var l [][2]uintptr
	switch v.Kind() {
	case reflect.Struct:
		for i := range v.NumField() {
			l = append(l, memory(v.Field(i))...)
		}
	case reflect.Slice:
		if v.Cap() > 0 {
			l = append(l, [2]uintptr{v.Pointer(), v.Pointer() + uintptr(v.Cap())*v.Type().Elem().Size()})
		}
		for i := range v.Len() {
			l = append(l, memory(v.Index(i))...)
		}
	}
	return l
}

// mustBeApart asks that no two lists of these values have memory in common.
func mustBeApart(t *testing.T, l ...any) {
	t.Helper()
	var all [][2]uintptr
	for _, v := range l {
		all = append(all, memory(reflect.ValueOf(v))...)
	}
	slices.SortFunc(all, func(a, b [2]uintptr) int { return slices.Compare(a[:], b[:]) })
	for n := 1; n < len(all); n++ {
		if all[n][0] < all[n-1][1] {
			t.Fatal("two lists share memory")
		}
	}
}

// roomy is a list in memory of its own, with room behind its end into which nobody may lay anything.
func roomy[T any](l []T, room T) []T {
	long := append(slices.Clone(l), room, room, room)
	return long[:len(l):len(long)]
}

// pathLists are all lists of steps of a graph's points.
func pathLists(g api.Graph) []*[]api.Step {
	var l []*[]api.Step
	for q := range g.Points {
		p := &g.Points[q]
		l = append(l, &p.To.Path, &p.From.Path, &p.A.Place.Path, &p.B.Place.Path)
		for k := range p.Args {
			l = append(l, &p.Args[k].Place.Path)
		}
	}
	return slices.DeleteFunc(l, func(path *[]api.Step) bool { return len(*path) == 0 })
}

// answers are those of all calls of a graph, with these paths gone.
func answers(u api.Unit, fn int, gone []int) []any {
	paths, _ := move.Paths(u, fn)
	start, _ := move.Start(u, fn)
	all := []any{paths, start}
	for n, p := range paths {
		below, _ := move.Below(u, fn, n)
		move.Path(u, fn, p)
		all = append(all, below)
	}
	for q := range u.Fns[fn].Points {
		goes, has, _ := move.Does(u, fn, q)
		uses, _ := move.Uses(u, fn, q)
		behind, _ := move.Behind(u, fn, q, gone)
		move.Again(u, fn, q)
		all = append(all, goes, has, uses, behind)
	}
	return all
}

// Answers share no memory with what is handed in, nor with one another; what is handed in stays as it is, the room behind its lists' ends, too.
func TestAnswersShareNothing(t *testing.T) {
	c := byChance(175)
	for range 15 {
		u, _ := graph.Own(c.unit(1 + c.Intn(10)))
		for _, g := range u.Fns {
			for _, path := range pathLists(g) {
				*path = roomy(*path, 7)
			}
		}
		before, e := graph.Own(u)
		if e != api.OK {
			t.Fatal(e)
		}
		all := []any{u}
		for fn, g := range u.Fns {
			was := c.paths(len(pathsOf(t, u, fn)))
			gone := roomy(was, 7)
			all = append(all, gone)
			all = append(all, answers(u, fn, gone)...)
			all = append(all, answers(u, fn, gone)...)
			if !slices.Equal(gone, was) || !slices.Equal(gone[len(gone):len(gone)+3], []int{7, 7, 7}) {
				t.Fatal("the list was changed")
			}
			for _, path := range pathLists(g) {
				if n := len(*path); !slices.Equal((*path)[n:n+3], []api.Step{7, 7, 7}) {
					t.Fatal("something lies behind a path's end")
				}
			}
		}
		mustBeApart(t, all...)
		if !graph.Same(u, before) {
			t.Fatal("the unit was changed")
		}
	}
}

// A place that is handed in stays as it is.
func TestPlaceIsLeft(t *testing.T) {
	u := small()
	p := placeOf("_1.1.*")
	p.Path = roomy(p.Path, 7)
	if n, e := move.Path(u, 1, p); n != 0 || e != api.ErrArg {
		t.Error(n, e)
	}
	p.Path = p.Path[:1]
	mustPath(t, u, 1, p, 3)
	if place.Text(p) != "_1.1" || !slices.Equal(p.Path[:5], []api.Step{1, api.Deref, 7, 7, 7}) {
		t.Error(p)
	}
}

// Nothing is kept from call to call: what is changed by whoever was answered, and what was refused, is not to be seen in the next answer.
func TestNothingIsKept(t *testing.T) {
	u := small()
	for range 3 {
		paths, _ := move.Paths(u, 1)
		for n := range paths {
			paths[n].Local = 9
			clear(paths[n].Path)
		}
		mustPaths(t, u, 1, "_0 _1 _1.0 _1.1 _2 _3 _4 _4.* _5")
		clear(belowOf(t, u, 1, 1))
		mustBelow(t, u, 1, 1, 1, 2, 3)
		start, _ := move.Start(u, 1)
		clear(start)
		mustStart(t, u, 1, 0, 4, 5, 6, 7, 8)
		gone, has := doesOf(t, u, 1, 1)
		clear(gone)
		clear(has)
		mustDo(t, u, 1, 1, []int{3}, []int{6, 7})
		clear(usesOf(t, u, 1, 3))
		mustUse(t, u, 1, 3, 1, 2, 6, 7)
		clear(behindOf(t, u, 1, 1, []int{0, 4, 6}))
		mustBehind(t, u, 1, 1, []int{0, 4, 6}, 0, 3, 4)
		h := all()
		h.fn = 4
		mustAnswer(t, "no function", u, h, everything, api.OK)
		mustAnswer(t, "small", u, all(), "", api.OK)
	}
}

// Which function is asked counts, and of the others nothing: not even how many paths they have.
func TestOthersDoNotMatter(t *testing.T) {
	u := small()
	u.Fns = append(u.Fns, graphOf(0, 1, "i64; #0", "drop _1.1; return"))
	for range 2 {
		mustPaths(t, u, 1, "_0 _1 _1.0 _1.1 _2 _3 _4 _4.* _5")
		mustPaths(t, u, 4, "_0 _1 _1.1")
		mustStart(t, u, 4, 0)
		u.Fns[4] = graphOf(0, 0, "i64; #0; Box<i64>", "_2 = move _1.1; return")
		mustPaths(t, u, 4, "_0 _1 _1.1 _2")
		mustStart(t, u, 4, 0, 1, 2, 3)
		u.Fns[4] = graphOf(0, 1, "i64; #0", "drop _1.1; return")
	}
}
