package place_test

import (
	"math"
	"slices"
	"testing"

	"loanword/api"
	"loanword/place"
)

// plainOrder is Order, word by word, of places whose steps are Deref or fields.
func plainOrder(p, q api.Place) int {
	switch {
	case spelt(p) == spelt(q):
		return 0
	case p.Local < q.Local:
		return -1
	case p.Local > q.Local:
		return 1
	case plainPrefix(p, q):
		return -1
	case plainPrefix(q, p):
		return 1
	}
	n := 0
	for p.Path[n] == q.Path[n] {
		n++
	}
	a, b := p.Path[n], q.Path[n]
	if a == deref || b != deref && a < b {
		return -1
	}
	return 1
}

// P9.3: Order of each two of many.
func TestOrder(t *testing.T) {
	var l []api.Place
	for _, local := range []int{0, 1, 9, 10, math.MaxInt} {
		for _, path := range allPaths(3, deref, 0, 1, 2, 10) {
			l = append(l, at(local, path...))
		}
	}
	for _, p := range l {
		for _, q := range l {
			if n := place.Order(p, q); n != plainOrder(p, q) {
				t.Fatalf("Order(%v, %v): %d", p, q, n)
			}
		}
	}
}

// P9.3: places as they stand in order.
func TestOrderOfSome(t *testing.T) {
	l := []string{"_0", "_0.9223372036854775807", "_1", "_1.*", "_1.*.*", "_1.*.0", "_1.0", "_1.0.*", "_1.0.0", "_1.1", "_1.2.*", "_1.10", "_2", "_2.0", "_10"}
	for i, a := range l {
		for j, b := range l {
			want := 0
			if i < j {
				want = -1
			} else if i > j {
				want = 1
			}
			if n := place.Order(read(t, a), read(t, b)); n != want {
				t.Errorf("Order(%s, %s): %d", a, b, n)
			}
		}
	}
}

// P9.3: Same of each two of many, among them such as may be nowhere.
func TestSame(t *testing.T) {
	l := somePlaces()
	for i, p := range l {
		for j, q := range l {
			if place.Same(p, q) != (i == j) {
				t.Fatalf("Same(%v, %v): %v", p, q, i != j)
			}
		}
		if !place.Same(p, at(p.Local, slices.Clone(p.Path)...)) {
			t.Fatalf("Same(%v) and itself laid anew", p)
		}
	}
	none := api.Place{Local: 5, Path: []api.Step{}}
	if !place.Same(none, at(5)) || place.Order(none, at(5)) != 0 || place.Order(none, at(5, deref)) != -1 {
		t.Error("a list of nothing and none are the same")
	}
}

// P9.4: Prefix is an order, a place's prefixes are a chain, Order is total and puts proper prefixes ahead.
func TestOrdersOfPlaces(t *testing.T) {
	var l []api.Place
	for _, local := range []int{0, 7, -1} {
		for _, path := range allPaths(3, deref, 0, 1, -2) {
			l = append(l, at(local, path...))
		}
	}
	before := make([][]bool, len(l))
	order := make([][]int, len(l))
	for i, p := range l {
		for _, q := range l {
			before[i] = append(before[i], place.Prefix(p, q))
			order[i] = append(order[i], place.Order(p, q))
		}
	}
	for i := range l {
		if !before[i][i] || order[i][i] != 0 {
			t.Fatalf("%v and itself", l[i])
		}
		for j := range l {
			mustOrderTwo(t, l[i], l[j], before[i][j], before[j][i], order[i][j], order[j][i])
			for k := range l {
				if before[i][j] && before[j][k] && !before[i][k] {
					t.Fatalf("%v, %v, %v: prefixes do not go on", l[i], l[j], l[k])
				}
				if before[i][k] && before[j][k] && !before[i][j] && !before[j][i] {
					t.Fatalf("%v, %v: both prefixes of %v, neither of the other", l[i], l[j], l[k])
				}
				if order[i][j] <= 0 && order[j][k] <= 0 && order[i][k] != min(order[i][j], order[j][k]) {
					t.Fatalf("%v, %v, %v: the order does not go on", l[i], l[j], l[k])
				}
			}
		}
	}
}

// mustOrderTwo asks what is promised of two places: is, si: whether the one is a prefix of the other; n, m: Order.
func mustOrderTwo(t *testing.T, p, q api.Place, is, si bool, n, m int) {
	t.Helper()
	same := place.Same(p, q)
	if n < -1 || n > 1 || m != -n || (n == 0) != same {
		t.Fatalf("Order(%v, %v): %d, and %d", p, q, n, m)
	}
	if (is && si) != same {
		t.Fatalf("%v, %v: prefixes of one another is %v", p, q, is && si)
	}
	if is && !same && n != -1 {
		t.Fatalf("Order(%v, %v): %d of a proper prefix", p, q, n)
	}
}
