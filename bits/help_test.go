package bits_test

import (
	"math"
	"math/rand"
	"slices"
	"testing"

	"loanword/api"
	"loanword/bits"
)

const widest = api.MaxPoints + api.MaxLives

// edgeWidths are the widths at which words and bytes begin and end, and the bounds.
var edgeWidths = []int{0, 1, 2, 7, 8, 9, 10, 15, 16, 17, 63, 64, 65, 70, 127, 128, 129, 1023, 1024, 1025, widest - 1, widest}

var wrongWidths = []int{-1, -64, math.MinInt, widest + 1, widest + 64, math.MaxInt - 62, math.MaxInt}

// plain is a row as a list of bools: what a row is held against.
type plain []bool

// rowOf lays the words down by the words of package api alone, by no call that is tested.
func rowOf(p plain) api.Row {
	r := api.Row{Width: len(p), Words: make([]uint64, (len(p)+63)/64)}
	for k, set := range p {
		if set {
			r.Words[k/64] |= 1 << (k % 64)
		}
	}
	return r
}

func with(width int, l ...int) api.Row {
	p := make(plain, width)
	for _, k := range l {
		p[k] = true
	}
	return rowOf(p)
}

func sameRow(a, b api.Row) bool {
	return a.Width == b.Width && slices.Equal(a.Words, b.Words)
}

func isZero(r api.Row) bool { return r.Width == 0 && len(r.Words) == 0 }

// somePlains are rows of that width: none, all, each edge bit alone, and some that chance made.
func somePlains(width int) []plain {
	l := []plain{make(plain, width)}
	all := make(plain, width)
	for k := range all {
		all[k] = true
	}
	l = append(l, all)
	for _, k := range []int{0, 7, 8, 62, 63, 64, 65, width - 1} {
		if k >= 0 && k < width {
			p := make(plain, width)
			p[k] = true
			l = append(l, p)
		}
	}
	chance := rand.New(rand.NewSource(int64(width) + 1))
	for range 6 {
		p := make(plain, width)
		for k := range p {
			p[k] = chance.Intn(3) == 0
		}
		l = append(l, p)
	}
	return l
}

// allPlains are all rows of that width.
func allPlains(width int) []plain {
	var l []plain
	for n := range 1 << width {
		p := make(plain, width)
		for k := range p {
			p[k] = n>>k&1 == 1
		}
		l = append(l, p)
	}
	return l
}

// wrongRows are rows that may not be.
func wrongRows() []api.Row {
	l := []api.Row{
		{Width: 0, Words: []uint64{0}},
		{Width: 1, Words: nil},
		{Width: 1, Words: []uint64{2}},
		{Width: 1, Words: []uint64{0, 0}},
		{Width: 63, Words: []uint64{1 << 63}},
		{Width: 64, Words: []uint64{}},
		{Width: 64, Words: []uint64{1, 0}},
		{Width: 65, Words: []uint64{1}},
		{Width: 65, Words: []uint64{1, 2}},
		{Width: 70, Words: []uint64{0, 1 << 6}},
		{Width: widest, Words: make([]uint64, 16)},
		{Width: widest, Words: make([]uint64, 18)},
	}
	over := make([]uint64, 17)
	over[16] = 1 << 8
	l = append(l, api.Row{Width: widest, Words: over})
	for _, width := range wrongWidths {
		l = append(l, api.Row{Width: width}, api.Row{Width: width, Words: make([]uint64, 1)}, api.Row{Width: width, Words: make([]uint64, 17)})
	}
	return l
}

// mustBe holds a row that a call answered against what it must be.
func mustBe(t *testing.T, what string, got api.Row, e api.Errno, want api.Row) {
	t.Helper()
	if e != api.OK || !sameRow(got, want) {
		t.Fatalf("%s: %v, %v; want %v", what, got, e, want)
	}
}

// mustFail asks for ErrArg and the zero row.
func mustFail(t *testing.T, what string, got api.Row, e api.Errno) {
	t.Helper()
	if e != api.ErrArg || !isZero(got) {
		t.Fatalf("%s: %v, %v; want ErrArg and nothing", what, got, e)
	}
}

func each(r api.Row) []int {
	var l []int
	for k := range bits.Each(r) {
		l = append(l, k)
	}
	return l
}

// spoil changes each word of a row that a call was handed or has answered.
func spoil(r api.Row) {
	for i := range r.Words {
		r.Words[i] = ^r.Words[i]
	}
}
