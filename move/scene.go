package move

import (
	"slices"

	"loanword/api"
	"loanword/graph"
	"loanword/place"
)

// scene is a graph of a unit that may be, with its move paths.
type scene struct {
	structs []api.Struct
	locals  []api.Type
	params  int
	points  []api.Point
	paths   []api.Place // in places' order: what goes on from one stands right behind it
}

// sceneOf answers the scene of the graph fn, if it has these points.
func sceneOf(u api.Unit, fn int, points ...int) (scene, api.Errno) {
	if fn < 0 || fn >= len(u.Fns) || !graph.May(u) {
		return scene{}, api.ErrArg
	}
	g := u.Fns[fn]
	for _, q := range points {
		if q < 0 || q >= len(g.Points) {
			return scene{}, api.ErrArg
		}
	}
	s := scene{structs: u.Structs, locals: g.Locals, params: g.Params, points: g.Points}
	s.paths = withPrefixes(s.mentioned())
	if len(s.paths) > api.MaxPaths {
		return scene{}, api.ErrPoint
	}
	return s, api.OK
}

// mentioned are all locals, and the places that the points have, each as far as it goes through no reference; in order.
func (s scene) mentioned() []api.Place {
	var l []api.Place
	for local := range s.locals {
		l = append(l, api.Place{Local: local})
	}
	for _, p := range s.points {
		for _, o := range operands(p) {
			l = append(l, s.held(o.Place))
		}
		l = append(l, s.held(p.From), s.held(p.To)) // of a point that has none it is the local 0, which is there anyway
	}
	slices.SortFunc(l, place.Order)
	return l
}

// withPrefixes answers these places, which are in order, and all their prefixes, each once, in order: what a place has in common with the one ahead of it stands there already.
func withPrefixes(l []api.Place) []api.Place {
	var all []api.Place
	last := api.Place{Local: -1}
	for _, p := range l {
		for n := inCommon(last, p); n <= len(p.Path); n++ {
			all = append(all, api.Place{Local: p.Local, Path: p.Path[:n:n]})
		}
		last = p
	}
	return all
}

// inCommon tells how many prefixes p and q have in common.
func inCommon(p, q api.Place) int {
	if p.Local != q.Local {
		return 0
	}
	n := 0
	for n < len(p.Path) && n < len(q.Path) && p.Path[n] == q.Path[n] {
		n++
	}
	return n + 1
}

// held is the longest prefix of a place of the graph that goes through no reference. Layer 9 would look at all structs and locals anew for each place.
func (s scene) held(p api.Place) api.Place {
	t := s.locals[p.Local]
	for n, step := range p.Path {
		switch {
		case t.Kind == api.TyRef:
			return api.Place{Local: p.Local, Path: p.Path[:n:n]}
		case step == api.Deref:
			t = t.Of[0]
		default:
			t = s.structs[t.Struct].Fields[step].Type
		}
	}
	return p
}

// find answers the number of a path, if p is one.
func (s scene) find(p api.Place) (path int, is bool) {
	return slices.BinarySearchFunc(s.paths, p, place.Order)
}

// below answers the paths of which this one is a prefix, rising.
func (s scene) below(path int) []int {
	var l []int
	for n := path; n < len(s.paths) && place.Prefix(s.paths[path], s.paths[n]); n++ {
		l = append(l, n)
	}
	return l
}

// above answers the paths that are prefixes of this one, rising: the local first, it last.
func (s scene) above(path int) []int {
	var l []int
	for n := range path + 1 {
		if place.Prefix(s.paths[n], s.paths[path]) {
			l = append(l, n)
		}
	}
	return l
}

func (s scene) hasPath(path int) bool { return path >= 0 && path < len(s.paths) }

// arePaths tells whether these are paths, rising.
func (s scene) arePaths(l []int) bool {
	for n, path := range l {
		if !s.hasPath(path) || n > 0 && path <= l[n-1] {
			return false
		}
	}
	return true
}
