package bits_test

import (
	"testing"

	"loanword/api"
	"loanword/bits"
)

// two is a call of two rows, and what each bit of its answer is.
type two struct {
	name string
	call func(a, b api.Row) (api.Row, api.Errno)
	bit  func(a, b bool) bool
}

func twos() []two {
	return []two{
		{"Or", bits.Or, func(a, b bool) bool { return a || b }},
		{"And", bits.And, func(a, b bool) bool { return a && b }},
		{"Less", bits.Less, func(a, b bool) bool { return a && !b }},
	}
}

// P1.3: Or, And, Less.
func TestOrAndLess(t *testing.T) {
	for _, width := range edgeWidths {
		l := somePlains(width)
		for _, p := range l {
			for _, q := range l {
				for _, c := range twos() {
					want := make(plain, width)
					for k := range want {
						want[k] = c.bit(p[k], q[k])
					}
					a, b := rowOf(p), rowOf(q)
					x, e := c.call(a, b)
					mustBe(t, c.name, x, e, rowOf(want))
					mustBe(t, c.name+"'s first", a, api.OK, rowOf(p))
					mustBe(t, c.name+"'s second", b, api.OK, rowOf(q))
					spoil(a)
					spoil(b)
					mustBe(t, c.name+", what was handed in changed", x, api.OK, rowOf(want))
				}
			}
		}
	}
}

// P1.3: Has, First.
func TestHasAndFirst(t *testing.T) {
	for _, width := range edgeWidths {
		l := somePlains(width)
		for _, p := range l {
			for _, q := range l {
				first, lacks := 0, false
				for k := width - 1; k >= 0; k-- {
					if q[k] && !p[k] {
						first, lacks = k, true
					}
				}
				a, b := rowOf(p), rowOf(q)
				if is, e := bits.Has(a, b); is == lacks || e != api.OK {
					t.Fatalf("Has(%v, %v): %v, %v", a, b, is, e)
				}
				if k, is, e := bits.First(a, b); k != first || is != lacks || e != api.OK {
					t.Fatalf("First(%v, %v): %d, %v, %v; want %d, %v", a, b, k, is, e, first, lacks)
				}
				mustBe(t, "the first", a, api.OK, rowOf(p))
				mustBe(t, "the second", b, api.OK, rowOf(q))
			}
		}
	}
}

// P1.3: the examples of the chapter.
func TestPairExamples(t *testing.T) {
	x, e := bits.Or(with(3), with(4))
	mustFail(t, "Or of widths 3 and 4", x, e)
	if k, is, e := bits.First(with(3, 0, 1), with(3, 1, 2)); k != 2 || !is || e != api.OK {
		t.Errorf("First(0 1 of 3, 1 2 of 3): %d, %v, %v", k, is, e)
	}
}

// P1.3: rows that may not be, and rows of unlike widths.
func TestPairsWrong(t *testing.T) {
	for _, width := range edgeWidths {
		for _, other := range edgeWidths {
			if other != width {
				mustFailPair(t, with(width), with(other))
			}
		}
	}
	wrong := append(wrongRows(), api.Row{Width: 8, Words: []uint64{1 << 8}})
	for _, r := range wrong {
		mustFailPair(t, r, r)
		mustFailPair(t, r, with(8, 1))
		mustFailPair(t, with(8, 1), r)
		if r.Width >= 0 && r.Width <= widest {
			mustFailPair(t, r, with(r.Width))
			mustFailPair(t, with(r.Width), r)
		}
	}
}

func mustFailPair(t *testing.T, a, b api.Row) {
	t.Helper()
	for _, c := range twos() {
		x, e := c.call(a, b)
		mustFail(t, c.name, x, e)
	}
	if is, e := bits.Has(a, b); is || e != api.ErrArg {
		t.Fatalf("Has(%v, %v): %v, %v", a, b, is, e)
	}
	if k, is, e := bits.First(a, b); k != 0 || is || e != api.ErrArg {
		t.Fatalf("First(%v, %v): %d, %v, %v", a, b, k, is, e)
	}
}
