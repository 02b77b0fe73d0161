package bits_test

import (
	"math"
	"slices"
	"testing"

	"loanword/api"
	"loanword/bits"
)

// P1.1: New.
func TestNew(t *testing.T) {
	for width := 0; width <= widest; width++ {
		r, e := bits.New(width)
		mustBe(t, "New", r, e, with(width))
	}
	for _, width := range wrongWidths {
		r, e := bits.New(width)
		mustFail(t, "New", r, e)
	}
	a, _ := bits.New(70)
	b, _ := bits.New(70)
	spoil(a)
	mustBe(t, "New beside another one", b, api.OK, with(70))
}

// P1.1: the examples of the chapter.
func TestNewExamples(t *testing.T) {
	r, e := bits.New(70)
	if e != api.OK || r.Width != 70 || len(r.Words) != 2 {
		t.Errorf("New(70): %v, %v", r, e)
	}
	for _, width := range []int{-1, 1033} {
		r, e := bits.New(width)
		mustFail(t, "New", r, e)
	}
	r, e = bits.Set(r, 0, 69)
	if e != api.OK || bits.Count(r) != 2 || !bits.Get(r, 69) || bits.Get(r, 70) {
		t.Errorf("Set(New(70), 0, 69): %v, %v", r, e)
	}
}

// P1.1: May, Own.
func TestMayAndOwn(t *testing.T) {
	for _, width := range edgeWidths {
		for _, p := range somePlains(width) {
			r := rowOf(p)
			if !bits.May(r) {
				t.Fatalf("May(%v) is false", r)
			}
			x, e := bits.Own(r)
			mustBe(t, "Own", x, e, rowOf(p))
			spoil(r)
			mustBe(t, "Own, what was handed in changed", x, e, rowOf(p))
		}
	}
	for _, r := range wrongRows() {
		if bits.May(r) {
			t.Fatalf("May(%v) is true", r)
		}
		x, e := bits.Own(r)
		mustFail(t, "Own", x, e)
	}
	for _, r := range []api.Row{{}, {Words: []uint64{}}} {
		if !bits.May(r) {
			t.Fatalf("May(%v) is false: none and a list of nothing are the same", r)
		}
	}
}

// P1.1: a bit behind the row's is seen at each width.
func TestMayEveryWidth(t *testing.T) {
	for width := 0; width <= widest; width++ {
		r := with(width)
		if !bits.May(r) {
			t.Fatalf("width %d: an empty row may not be", width)
		}
		for k := width; k < 64*len(r.Words); k++ {
			over := with(width)
			over.Words[k/64] |= 1 << (k % 64)
			if bits.May(over) {
				t.Fatalf("width %d: a row with the bit %d may be", width, k)
			}
		}
	}
}

// P1.1: Get.
func TestGet(t *testing.T) {
	for _, width := range edgeWidths {
		for _, p := range somePlains(width) {
			r := rowOf(p)
			for k, set := range p {
				if bits.Get(r, k) != set {
					t.Fatalf("Get(%v, %d) is not %v", r, k, set)
				}
			}
			for _, k := range []int{-1, -64, math.MinInt, width, width + 1, width + 63, width + 64, 1 << 16, math.MaxInt} {
				if bits.Get(r, k) {
					t.Fatalf("Get(%v, %d) is true: none of its bits", r, k)
				}
			}
		}
	}
	for _, r := range wrongRows() {
		spoil(r)
		for _, k := range []int{-1, 0, 1, 63, 64, 65, 1031, 1032} {
			if !bits.May(r) && bits.Get(r, k) {
				t.Fatalf("Get(%v, %d) of a row that may not be", r, k)
			}
		}
	}
	if bits.Get(api.Row{Width: 2, Words: []uint64{5}}, 0) {
		t.Error("Get of a row with a bit behind its own")
	}
}

// P1.1: Count, Each.
func TestCountAndEach(t *testing.T) {
	for _, width := range edgeWidths {
		for _, p := range somePlains(width) {
			var want []int
			for k, set := range p {
				if set {
					want = append(want, k)
				}
			}
			r := rowOf(p)
			if got := each(r); !slices.Equal(got, want) {
				t.Fatalf("Each(%v): %v; want %v", r, got, want)
			}
			if n := bits.Count(r); n != len(want) {
				t.Fatalf("Count(%v): %d; want %d", r, n, len(want))
			}
			mustBe(t, "what Each and Count were handed", r, api.OK, rowOf(p))
		}
	}
	wrong := append(wrongRows(), api.Row{Width: 2, Words: []uint64{7}}, api.Row{Width: 64, Words: []uint64{1, 1}}, api.Row{Width: -1, Words: []uint64{1}})
	for _, r := range wrong {
		if n := bits.Count(r); n != 0 {
			t.Fatalf("Count(%v): %d of a row that may not be", r, n)
		}
		if bits.Each(r) == nil {
			t.Fatalf("Each(%v) is nothing over which one may range", r)
		}
		if l := each(r); len(l) != 0 {
			t.Fatalf("Each(%v): %v of a row that may not be", r, l)
		}
	}
}

// P1.1: Each may be left, and be gone over again; it keeps nothing of what is handed in.
func TestEachLeftAndAgain(t *testing.T) {
	r := with(200, 0, 3, 63, 64, 127, 128, 199)
	seq := bits.Each(r)
	for stop := range 7 {
		var got []int
		for k := range seq {
			got = append(got, k)
			if len(got) > stop {
				break
			}
		}
		if want := []int{0, 3, 63, 64, 127, 128, 199}[:stop+1]; !slices.Equal(got, want) {
			t.Fatalf("left behind %d bits: %v; want %v", stop+1, got, want)
		}
	}
	spoil(r)
	if got := slices.Collect(seq); !slices.Equal(got, []int{0, 3, 63, 64, 127, 128, 199}) {
		t.Errorf("the row was changed behind the call: %v", got)
	}
	r = with(64, 1, 5)
	var got []int
	for k := range bits.Each(r) {
		r.Words[0] = 0
		got = append(got, k)
	}
	if !slices.Equal(got, []int{1, 5}) {
		t.Errorf("the row was changed while its bits were told: %v", got)
	}
}

// P1.2: Set, Clear.
func TestSetAndClear(t *testing.T) {
	for _, width := range edgeWidths {
		for _, p := range somePlains(width) {
			for _, l := range listsOf(width) {
				set, cleared := slices.Clone(p), slices.Clone(p)
				for _, k := range l {
					set[k], cleared[k] = true, false
				}
				r, list := rowOf(p), slices.Clone(l)
				x, e := bits.Set(r, list...)
				mustBe(t, "Set", x, e, rowOf(set))
				y, e := bits.Clear(r, list...)
				mustBe(t, "Clear", y, e, rowOf(cleared))
				mustBe(t, "what Set and Clear were handed", r, api.OK, rowOf(p))
				if !slices.Equal(list, l) {
					t.Fatalf("the list %v became %v", l, list)
				}
				spoil(r)
				mustBe(t, "Set, what was handed in changed", x, api.OK, rowOf(set))
				mustBe(t, "Clear, what was handed in changed", y, api.OK, rowOf(cleared))
			}
		}
	}
}

// listsOf are lists of bits of a row of that width: none, the ends, one twice, all.
func listsOf(width int) [][]int {
	l := [][]int{nil, {}}
	if width == 0 {
		return l
	}
	var all []int
	for k := range width {
		all = append(all, k)
	}
	last := width - 1
	return append(l, []int{0}, []int{last}, []int{last, 0}, []int{width / 2, width / 2}, all)
}

// P1.2: wrong rows and bits.
func TestSetAndClearWrong(t *testing.T) {
	for _, width := range edgeWidths {
		r := with(width)
		for _, k := range []int{-1, -64, math.MinInt, width, width + 1, 64 * len(r.Words), 1 << 20, math.MaxInt} {
			if k < width && k >= 0 {
				continue
			}
			lists := [][]int{{k}, {k, k}}
			if width > 0 {
				lists = append(lists, []int{0, k}, []int{k, 0}, []int{0, k, width - 1})
			}
			for _, l := range lists {
				x, e := bits.Set(r, l...)
				mustFail(t, "Set of what is none of its bits", x, e)
				x, e = bits.Clear(r, l...)
				mustFail(t, "Clear of what is none of its bits", x, e)
				mustBe(t, "what was handed in", r, api.OK, with(width))
			}
		}
	}
	for _, r := range wrongRows() {
		for _, l := range [][]int{nil, {0}, {-1}, {r.Width - 1}, {0, 63, 64}} {
			x, e := bits.Set(r, l...)
			mustFail(t, "Set of a row that may not be", x, e)
			x, e = bits.Clear(r, l...)
			mustFail(t, "Clear of a row that may not be", x, e)
		}
	}
}
