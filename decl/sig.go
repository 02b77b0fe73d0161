package decl

import (
	"slices"
	"strings"

	"loanword/api"
	"loanword/types"
)

// sigOf answers the signature of the function at a node.
func (f file) sigOf(fn int) api.Sig {
	x := f.nodes[fn]
	lives, answer := f.livesOf(fn), x.L[len(x.L)-2]
	in := f.scopeOf(fn)
	s := api.Sig{Name: strings.Clone(x.S), Lives: namesOf(f.nodes, lives), Count: len(lives), Node: fn}
	s.Params = f.fieldsOf(in, x.L[len(lives):len(x.L)-2])
	var stand []int
	for i := range s.Params {
		p := &s.Params[i].Type
		*p = filled(*p, func() int {
			s.Count++
			return s.Count - 1
		})
		stand = append(stand, types.Regions(*p)...)
	}
	s.Answer = filled(in.typeAt(f.nodes, answer), func() int {
		must(allSame(stand), f.firstBare(answer), api.ErrElide)
		return stand[0]
	})
	must(s.Count <= api.MaxLives, fn, api.ErrLong)
	s.Outlives = closed(s, f.bounds(in, lives))
	return s
}

// filled answers t with what next tells for each region that is not there yet.
func filled(t api.Type, next func() int) api.Type {
	regions := types.Regions(t)
	for i := range regions {
		if regions[i] < 0 {
			regions[i] = next()
		}
	}
	x, _ := types.Anew(t, regions...) // they are as many as they were
	return x
}

// allSame tells whether just one number stands in l, however often.
func allSame(l []int) bool { return len(l) > 0 && slices.Min(l) == slices.Max(l) }

// firstBare answers the first bare reference of the type at n, which has one.
func (f file) firstBare(n int) int {
	for !isBare(f.nodes[n]) {
		n++
	}
	return n
}

// bounds answers what these lifetimes say that they outlive.
func (f file) bounds(in scope, lives []int) []api.Outlives {
	var l []api.Outlives
	for long, life := range lives {
		for _, bound := range f.nodes[life].L {
			l = append(l, api.Outlives{Long: long, Short: in.lives[f.nodes[bound].S]})
		}
	}
	return l
}
