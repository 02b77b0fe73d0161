package rules

import (
	"loanword/api"
	"loanword/bits"
)

const wordBits = 64

// rowOf answers a row of that width with these bits.
func rowOf(width int, l ...int) api.Row {
	r, _ := bits.New(width)
	for _, k := range l {
		put(r, k)
	}
	return r
}

// rowsOf answers so many rows of that width without bits.
func rowsOf(count, width int) []api.Row {
	var l []api.Row
	for range count {
		l = append(l, rowOf(width))
	}
	return l
}

// turned answers so many rows of which the row k has the bit i where the row i of these has the bit k.
func turned(rows []api.Row, count int) []api.Row {
	l := rowsOf(count, len(rows))
	for i, r := range rows {
		for k := range bits.Each(r) {
			put(l[k], i)
		}
	}
	return l
}

// put lays a bit into a row of this package's own.
func put(r api.Row, k int) { r.Words[k/wordBits] |= 1 << (k % wordBits) }

// add lays all bits of a row that is no wider into a row of this package's own, and tells whether it lacked one.
func add(to, r api.Row) (lacked bool) {
	for k, word := range r.Words {
		lacked = lacked || word&^to.Words[k] != 0
		to.Words[k] |= word
	}
	return lacked
}

// lacking tells the bits that each of these rows must have and has not.
func lacking(rows, must []api.Row, tell teller) {
	for what, r := range rows {
		lacks, _ := bits.Less(must[what], r)
		for at := range bits.Each(lacks) {
			tell(what, at)
		}
	}
}
