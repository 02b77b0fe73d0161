package place_test

import (
	"math"
	"slices"
	"testing"

	"loanword/api"
	"loanword/place"
)

// somePlaces are all small places, among them such as may be nowhere.
func somePlaces() []api.Place {
	var l []api.Place
	for _, local := range []int{0, 1, -1, math.MinInt, math.MaxInt} {
		for _, path := range allPaths(3, deref, 0, 1, -2, math.MaxInt) {
			l = append(l, at(local, path...))
		}
	}
	return l
}

// P9.2: Prefix of each two of many.
func TestPrefix(t *testing.T) {
	l := somePlaces()
	for _, p := range l {
		for _, q := range l {
			if place.Prefix(p, q) != plainPrefix(p, q) {
				t.Fatalf("Prefix(%v, %v): %v", p, q, !plainPrefix(p, q))
			}
		}
	}
	if !place.Prefix(at(3), api.Place{Local: 3, Path: []api.Step{}}) || !place.Prefix(api.Place{Local: 3, Path: []api.Step{}}, at(3, 1)) {
		t.Error("a list of nothing and none are the same")
	}
}

// mustHavePrefixes asks for each of its prefixes, the local first, it last.
func mustHavePrefixes(t *testing.T, p api.Place) {
	t.Helper()
	l := place.Prefixes(p)
	if len(l) != len(p.Path)+1 {
		t.Fatalf("Prefixes(%.60v): %d", p, len(l))
	}
	for n, q := range l {
		if q.Local != p.Local || !slices.Equal(q.Path, p.Path[:n]) {
			t.Fatalf("Prefixes(%.60v): %.60v at %d", p, q, n)
		}
	}
}

// P9.2: Prefixes, whether the place may be or not.
func TestPrefixes(t *testing.T) {
	for _, p := range somePlaces() {
		mustHavePrefixes(t, p)
	}
	mustHavePrefixes(t, api.Place{})
	mustHavePrefixes(t, api.Place{Local: 4, Path: []api.Step{}})
	for _, n := range []int{api.MaxSteps, api.MaxSteps + 1, 300, 1500} {
		p := at(-7, slices.Repeat([]api.Step{deref, 0, -5, math.MaxInt}, n)[:n]...)
		mustHavePrefixes(t, p)
		for _, q := range place.Prefixes(p) {
			if !place.Prefix(q, p) || place.Prefix(p, q) != (len(q.Path) == n) {
				t.Fatalf("the first %d of %d steps", len(q.Path), n)
			}
		}
	}
}

// P9.2: the chapter's examples.
func TestWithinExamples(t *testing.T) {
	w := chapterWorld(t)
	for _, c := range []struct {
		p, q string
		d    api.Depth
		want bool
	}{
		{"_1", "_1.1.*", api.Shallow, false}, {"_1", "_1.1.*", api.Dropping, true},
		{"_2", "_2.*.0", api.Dropping, false}, {"_2", "_2.*.0", api.Deep, true},
		{"_3", "_3.*", api.Deep, false},
	} {
		if is, e := place.Within(w.structs, w.locals, read(t, c.p), read(t, c.q), c.d); is != c.want || e != api.OK {
			t.Errorf("Within(%s, %s, %d): %v, %v", c.p, c.q, c.d, is, e)
		}
	}
	for s, want := range map[string]string{"_1.1.*": "_1.1.*", "_2.*.1": "_2"} {
		if h, e := place.Held(w.structs, w.locals, read(t, s)); place.Text(h) != want || e != api.OK {
			t.Errorf("Held(%s): %v, %v; want %s", s, h, e, want)
		}
	}
}

// P9.2: Within of each two places, whichever is a prefix, at each depth.
func TestWithin(t *testing.T) {
	w := richWorld(t)
	l := w.allPlaces(3)
	met := map[api.Depth]int{}
	for _, p := range l {
		for _, q := range l {
			for _, d := range depths {
				want := w.plainWithin(p, q, d)
				if is, e := place.Within(w.structs, w.locals, p, q, d); is != want || e != api.OK {
					t.Fatalf("Within(%v, %v, %d): %v, %v", p, q, d, is, e)
				}
				if want && len(p.Path) < len(q.Path) {
					met[d]++
				}
			}
		}
	}
	if met[api.Shallow] < 20 || met[api.Dropping] < met[api.Shallow]+20 || met[api.Deep] < met[api.Dropping]+20 {
		t.Errorf("too few: %v", met)
	}
}

// P9.2: what stands ahead of the rest does not count: each rest of a long place by itself.
func TestWithinRest(t *testing.T) {
	w := richWorld(t)
	c := byChance(92)
	for range 3000 {
		q := c.place(w, api.MaxSteps, 1<<30)
		if _, _, ok := w.plainWay(q); !ok {
			continue
		}
		for n := range len(q.Path) + 1 {
			p := at(q.Local, q.Path[:n]...)
			for _, d := range depths {
				if is, e := place.Within(w.structs, w.locals, p, q, d); is != w.plainWithin(p, q, d) || e != api.OK {
					t.Fatalf("Within(%v, %v, %d): %v, %v", p, q, d, is, e)
				}
			}
		}
	}
}

// P9.2: a depth that is none, whether one is a prefix of the other or not.
func TestWithinWrongDepth(t *testing.T) {
	w := chapterWorld(t)
	for _, d := range []api.Depth{api.NoDepth, api.Deep + 1, 100, 255} {
		w.mustRefuseWithin(t, at(1), at(1), d)
		w.mustRefuseWithin(t, at(1), at(1, 1, deref), d)
		w.mustRefuseWithin(t, at(1, 1), at(1), d)
		w.mustRefuseWithin(t, at(0), at(1), d)
		w.mustRefuseWithin(t, at(0), at(9), d)
	}
}

// P9.2: both must be such as may be, whichever is the prefix, and where none is.
func TestWithinWrongPlaces(t *testing.T) {
	w := richWorld(t)
	good := w.allPlaces(1)
	for _, wrong := range w.wrongPlaces() {
		for _, p := range good {
			w.mustRefuseWithin(t, p, wrong, api.Deep)
			w.mustRefuseWithin(t, wrong, p, api.Shallow)
		}
	}
}
