package outlive

import (
	"math/bits"
	"slices"

	"loanword/api"
)

const (
	maxWidth = api.MaxPoints + api.MaxLives
	wordBits = 64
)

// isBelow tells whether k is one of so many, counted from 0 on.
func isBelow(count, k int) bool { return k >= 0 && k < count }

// areBelow tells whether all of these constraints speak of so many regions.
func areBelow(count int, l []api.Constraint) bool {
	return !slices.ContainsFunc(l, func(c api.Constraint) bool {
		return !isBelow(count, c.Long) || !isBelow(count, c.Short)
	})
}

// areRows tells whether all of these may be rows, as wide as one another.
func areRows(rows []api.Row) bool {
	return !slices.ContainsFunc(rows, func(r api.Row) bool {
		return r.Width != rows[0].Width || !isRow(r)
	})
}

// isRow tells whether r may be. The width comes first: only of one that may be is the count of words sure not to wrap round.
func isRow(r api.Row) bool {
	if r.Width < 0 || r.Width > maxWidth || len(r.Words) != (r.Width+wordBits-1)/wordBits {
		return false
	}
	used := r.Width % wordBits
	return used == 0 || r.Words[len(r.Words)-1]>>used == 0
}

// firstLacking answers the first bit of the row short that the row long, which is as wide, has not.
func firstLacking(long, short api.Row) (bit int, lacks bool) {
	for k, word := range short.Words {
		if rest := word &^ long.Words[k]; rest != 0 {
			return k*wordBits + bits.TrailingZeros64(rest), true
		}
	}
	return 0, false
}
