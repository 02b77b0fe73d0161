package rules

import (
	"slices"

	"loanword/api"
	"loanword/bits"
	"loanword/move"
)

// again answers the paths that the point q uses though an operand of it has moved them ahead of that use. Layer 17 tells that there is one, and the least; the others are found step by step.
func (s *scene) again(q int) api.Row {
	again, moved := s.rowOfPaths(), s.rowOfPaths()
	use := func(paths api.Row) {
		both, _ := bits.And(paths, moved)
		add(again, both)
	}
	if _, is, _ := move.Again(s.unit, s.fn, q); !is {
		return again
	}
	p := s.points[q]
	for _, o := range append([]api.Operand{p.A, p.B}, p.Args...) {
		if o.Kind != api.Copy && o.Kind != api.Move {
			continue
		}
		above, below := s.around(o.Place)
		use(above)
		use(below)
		if o.Kind == api.Move {
			add(moved, below)
		}
	}
	above, _ := s.around(p.To)
	use(above)
	return again
}

// around answers the paths in which a place lies, and those that lie in it, itself among these, if it is one. (Of a place that goes through a reference none lies in it: paths do not.)
func (s *scene) around(p api.Place) (above, below api.Row) {
	above, below = s.rowOfPaths(), s.rowOfPaths()
	for n, path := range s.paths {
		switch {
		case isPrefix(p, path):
			put(below, n)
		case isPrefix(path, p):
			put(above, n)
		}
	}
	return above, below
}

// isPrefix tells whether the steps of q begin with those of p, from the same local.
func isPrefix(p, q api.Place) bool {
	return p.Local == q.Local && len(p.Path) <= len(q.Path) && slices.Equal(p.Path, q.Path[:len(p.Path)])
}

// rowOfPaths answers the row of these paths.
func (s *scene) rowOfPaths(l ...int) api.Row { return rowOf(len(s.paths), l...) }
