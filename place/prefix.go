package place

import (
	"cmp"
	"slices"

	"loanword/api"
)

// Prefix tells whether p is a prefix of q.
func Prefix(p, q api.Place) bool {
	n := len(p.Path)
	return p.Local == q.Local && n <= len(q.Path) && slices.Equal(p.Path, q.Path[:n])
}

// Prefixes answers all prefixes of p, the local first, p last.
func Prefixes(p api.Place) []api.Place {
	n := len(p.Path)
	l := make([]api.Place, 0, n+1)
	l = append(l, api.Place{Local: p.Local})
	// All paths lie in one list, one behind the other, each cut so that it ends, room and all, where the next one begins.
	all := make([]api.Step, 0, n*(n+1)/2)
	for end := 1; end <= n; end++ {
		from := len(all)
		all = append(all, p.Path[:end]...)
		l = append(l, api.Place{Local: p.Local, Path: all[from:len(all):len(all)]})
	}
	return l
}

// Order tells whether p stands ahead of q (-1), is the same (0), or stands behind it (1). Deref is less than each field's number, so steps are held against each other as numbers.
func Order(p, q api.Place) int {
	return cmp.Or(cmp.Compare(p.Local, q.Local), slices.Compare(p.Path, q.Path))
}

// Same tells whether p and q are the same.
func Same(p, q api.Place) bool {
	return p.Local == q.Local && slices.Equal(p.Path, q.Path)
}
