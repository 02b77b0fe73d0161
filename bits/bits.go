// Package bits is layer 1: rows of bits as plain data (see shared/doc/01-bits.md).
package bits

import (
	"iter"
	mathbits "math/bits"

	"loanword/api"
)

const (
	maxWidth = api.MaxPoints + api.MaxLives
	wordBits = 64
)

// New answers a row of that width without bits.
func New(width int) (api.Row, api.Errno) {
	if !mayWidth(width) {
		return api.Row{}, api.ErrArg
	}
	return api.Row{Width: width, Words: make([]uint64, wordCount(width))}, api.OK
}

// May tells whether r may be.
func May(r api.Row) bool {
	// The width comes first: only of one that may be is the count of words sure not to wrap round.
	if !mayWidth(r.Width) || len(r.Words) != wordCount(r.Width) {
		return false
	}
	used := r.Width % wordBits
	return used == 0 || r.Words[len(r.Words)-1]>>used == 0
}

// Own answers the same row in memory of its own.
func Own(r api.Row) (api.Row, api.Errno) {
	if !May(r) {
		return api.Row{}, api.ErrArg
	}
	words := make([]uint64, len(r.Words))
	copy(words, r.Words)
	return api.Row{Width: r.Width, Words: words}, api.OK
}

// Get tells whether k is one of r's bits and set.
func Get(r api.Row, k int) bool {
	return May(r) && isBit(r, k) && r.Words[k/wordBits]&wordBit(k) != 0
}

// Set answers r with the bits of l set.
func Set(r api.Row, l ...int) (api.Row, api.Errno) {
	x, e := ownWith(r, l)
	if e != api.OK {
		return api.Row{}, e
	}
	for _, k := range l {
		x.Words[k/wordBits] |= wordBit(k)
	}
	return x, api.OK
}

// Clear answers r with the bits of l cleared.
func Clear(r api.Row, l ...int) (api.Row, api.Errno) {
	x, e := ownWith(r, l)
	if e != api.OK {
		return api.Row{}, e
	}
	for _, k := range l {
		x.Words[k/wordBits] &^= wordBit(k)
	}
	return x, api.OK
}

// Or answers the bits that a or b has.
func Or(a, b api.Row) (api.Row, api.Errno) {
	x, e := ownBeside(a, b)
	if e != api.OK {
		return api.Row{}, e
	}
	for i, w := range b.Words {
		x.Words[i] |= w
	}
	return x, api.OK
}

// And answers the bits that both a and b have.
func And(a, b api.Row) (api.Row, api.Errno) {
	x, e := ownBeside(a, b)
	if e != api.OK {
		return api.Row{}, e
	}
	for i, w := range b.Words {
		x.Words[i] &= w
	}
	return x, api.OK
}

// Less answers the bits of a that are not b's.
func Less(a, b api.Row) (api.Row, api.Errno) {
	x, e := ownBeside(a, b)
	if e != api.OK {
		return api.Row{}, e
	}
	for i, w := range b.Words {
		x.Words[i] &^= w
	}
	return x, api.OK
}

// Has tells whether a has all bits of b.
func Has(a, b api.Row) (bool, api.Errno) {
	_, lacks, e := First(a, b)
	if e != api.OK {
		return false, e
	}
	return !lacks, api.OK
}

// First answers the first bit of b that a has not, and whether there is one.
func First(a, b api.Row) (k int, ok bool, e api.Errno) {
	lacking, e := Less(b, a)
	if e != api.OK {
		return 0, false, e
	}
	for k := range Each(lacking) {
		return k, true, api.OK
	}
	return 0, false, api.OK
}

// Count tells how many bits of r are set.
func Count(r api.Row) int {
	if !May(r) {
		return 0
	}
	n := 0
	for _, w := range r.Words {
		n += mathbits.OnesCount64(w)
	}
	return n
}

// Each goes over the bits of r that are set, rising.
func Each(r api.Row) iter.Seq[int] {
	// The row is copied at once: whoever changes it later does not change what is told.
	x, e := Own(r)
	if e != api.OK {
		return func(func(int) bool) {}
	}
	return func(yield func(int) bool) {
		for i, w := range x.Words {
			for ; w != 0; w &= w - 1 {
				if !yield(i*wordBits + mathbits.TrailingZeros64(w)) {
					return
				}
			}
		}
	}
}

func mayWidth(width int) bool { return width >= 0 && width <= maxWidth }

func wordCount(width int) int { return (width + wordBits - 1) / wordBits }

func isBit(r api.Row, k int) bool { return k >= 0 && k < r.Width }

func wordBit(k int) uint64 { return 1 << (k % wordBits) }

// ownWith answers r in memory of its own, if all of l are bits of it.
func ownWith(r api.Row, l []int) (api.Row, api.Errno) {
	for _, k := range l {
		if !isBit(r, k) {
			return api.Row{}, api.ErrArg
		}
	}
	return Own(r)
}

// ownBeside answers a in memory of its own, if b may be and is as wide.
func ownBeside(a, b api.Row) (api.Row, api.Errno) {
	if !May(b) || a.Width != b.Width {
		return api.Row{}, api.ErrArg
	}
	return Own(a)
}
