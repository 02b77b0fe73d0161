package place_test

import (
	"testing"

	"loanword/api"
	"loanword/place"
)

// table is Within of each two places of one local, at each depth.
type table map[api.Depth][][]bool

func (w world) table(t *testing.T, l []api.Place) table {
	t.Helper()
	m := table{}
	for _, d := range depths {
		for i, p := range l {
			m[d] = append(m[d], nil)
			for _, q := range l {
				is, e := place.Within(w.structs, w.locals, p, q, d)
				if e != api.OK {
					t.Fatalf("Within(%v, %v, %d): %v", p, q, d, e)
				}
				m[d][i] = append(m[d][i], is)
			}
		}
	}
	return m
}

// P9.5: a wider depth has all of a stricter one; rests that follow each other are within a depth just if both together are.
func TestWithinGoesOn(t *testing.T) {
	w := richWorld(t)
	byLocal := make([][]api.Place, len(w.locals))
	for _, p := range w.allPlaces(4) {
		byLocal[p.Local] = append(byLocal[p.Local], p)
	}
	for _, l := range byLocal {
		m := w.table(t, l)
		for i, p := range l {
			for j, q := range l {
				if m[api.Shallow][i][j] && !m[api.Dropping][i][j] || m[api.Dropping][i][j] && !m[api.Deep][i][j] {
					t.Fatalf("%v, %v: a wider depth has less", p, q)
				}
				for k, r := range l {
					if !place.Prefix(p, q) || !place.Prefix(q, r) {
						continue
					}
					for _, d := range depths {
						if (m[d][i][j] && m[d][j][k]) != m[d][i][k] {
							t.Fatalf("%v, %v, %v at depth %d", p, q, r, d)
						}
					}
				}
			}
		}
	}
}

// P9.5: what is held is within Dropping of the local, and held itself; no longer prefix is.
func TestHeldFollows(t *testing.T) {
	w := richWorld(t)
	for _, p := range w.allPlaces(5) {
		h, e := place.Held(w.structs, w.locals, p)
		if e != api.OK {
			t.Fatalf("Held(%v): %v", p, e)
		}
		if again, e := place.Held(w.structs, w.locals, h); e != api.OK || !place.Same(again, h) {
			t.Fatalf("Held(Held(%v)): %v, %v; want %v", p, again, e, h)
		}
		for _, q := range place.Prefixes(p) {
			is, e := place.Within(w.structs, w.locals, at(p.Local), q, api.Dropping)
			if e != api.OK || is != place.Prefix(q, h) {
				t.Fatalf("%v of %v, of which %v is held: within Dropping is %v, %v", q, p, h, is, e)
			}
		}
	}
}
