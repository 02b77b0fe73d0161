package bits_test

import (
	"slices"
	"testing"

	"loanword/api"
	"loanword/bits"
)

func or(t *testing.T, a, b api.Row) api.Row {
	t.Helper()
	x, e := bits.Or(a, b)
	if e != api.OK {
		t.Fatalf("Or(%v, %v): %v", a, b, e)
	}
	return x
}

func and(t *testing.T, a, b api.Row) api.Row {
	t.Helper()
	x, e := bits.And(a, b)
	if e != api.OK {
		t.Fatalf("And(%v, %v): %v", a, b, e)
	}
	return x
}

// latticeRows are lists of rows of one width each: all of few bits, some of many.
func latticeRows() [][]api.Row {
	var all [][]api.Row
	add := func(l []plain) {
		var rows []api.Row
		for _, p := range l {
			rows = append(rows, rowOf(p))
		}
		all = append(all, rows)
	}
	for width := range 5 {
		add(allPlains(width))
	}
	for _, width := range []int{63, 64, 65, 70, 128, 1024, widest} {
		add(somePlains(width))
	}
	return all
}

// P1.5: the laws of one row and of two.
func TestLatticePairs(t *testing.T) {
	for _, rows := range latticeRows() {
		for _, a := range rows {
			mustBe(t, "Or of a row and itself", or(t, a, a), api.OK, a)
			mustBe(t, "And of a row and itself", and(t, a, a), api.OK, a)
			for _, b := range rows {
				mustBe(t, "Or the other way round", or(t, a, b), api.OK, or(t, b, a))
				mustBe(t, "And the other way round", and(t, a, b), api.OK, and(t, b, a))
				mustBe(t, "And undoes Or's more", and(t, a, or(t, a, b)), api.OK, a)
				mustBe(t, "Or undoes And's more", or(t, a, and(t, a, b)), api.OK, a)
				checkHas(t, a, b)
				checkCounts(t, a, b)
			}
		}
	}
}

// P1.5: the laws of three rows.
func TestLatticeTriples(t *testing.T) {
	for _, rows := range latticeRows() {
		for _, a := range rows {
			for _, b := range rows {
				for _, c := range rows {
					mustBe(t, "Or put together otherwise", or(t, a, or(t, b, c)), api.OK, or(t, or(t, a, b), c))
					mustBe(t, "And put together otherwise", and(t, a, and(t, b, c)), api.OK, and(t, and(t, a, b), c))
					mustBe(t, "And through Or", and(t, a, or(t, b, c)), api.OK, or(t, and(t, a, b), and(t, a, c)))
					mustBe(t, "Or through And", or(t, a, and(t, b, c)), api.OK, and(t, or(t, a, b), or(t, a, c)))
				}
			}
		}
	}
}

// checkHas is P1.5 of Has, Or, Less and First.
func checkHas(t *testing.T, a, b api.Row) {
	t.Helper()
	has, e := bits.Has(a, b)
	if e != api.OK {
		t.Fatalf("Has(%v, %v): %v", a, b, e)
	}
	rest, e := bits.Less(b, a)
	if e != api.OK {
		t.Fatalf("Less(%v, %v): %v", b, a, e)
	}
	_, lacks, e := bits.First(a, b)
	if e != api.OK {
		t.Fatalf("First(%v, %v): %v", a, b, e)
	}
	if has != sameRow(or(t, a, b), a) || has != (bits.Count(rest) == 0) || has == lacks {
		t.Fatalf("%v has %v: %v; but Less is %v, First says %v", a, b, has, rest, lacks)
	}
}

// checkCounts is P1.6 of two rows.
func checkCounts(t *testing.T, a, b api.Row) {
	t.Helper()
	if bits.Count(or(t, a, b))+bits.Count(and(t, a, b)) != bits.Count(a)+bits.Count(b) {
		t.Fatalf("Count of Or and And of %v and %v", a, b)
	}
}

// P1.6: Count and Each; Read and Bytes, both ways.
func TestCountsAndBytesBack(t *testing.T) {
	for _, rows := range latticeRows() {
		for _, r := range rows {
			l := each(r)
			if bits.Count(r) != len(l) || !slices.IsSorted(l) {
				t.Fatalf("Count(%v) is %d, Each tells %v", r, bits.Count(r), l)
			}
			s, e := bits.Bytes(r)
			if e != api.OK {
				t.Fatalf("Bytes(%v): %v", r, e)
			}
			back, _, e := bits.Read(r.Width, s)
			mustBe(t, "Read of Bytes", back, e, r)
		}
	}
	for width := range 17 {
		for _, s := range shortTexts() {
			r, _, e := bits.Read(width, s)
			if e != api.OK {
				continue
			}
			if back, e := bits.Bytes(r); back != s || e != api.OK {
				t.Fatalf("Bytes of Read(%d, %q): %q, %v", width, s, back, e)
			}
		}
	}
}
