package rules

import (
	"slices"

	"loanword/api"
	"loanword/bits"
	"loanword/loan"
	"loanword/move"
	"loanword/region"
)

// scene is a graph of a unit that may be, with as many regions and move paths as there may be.
type scene struct {
	unit     api.Unit // what of it the graph is asked by
	fn       int
	points   []api.Point
	regions  api.Regions
	loans    []api.Loan
	paths    []api.Place
	deeds    []deed             // of each point, from when they are first asked for
	brokenBy map[access]api.Row // which loans an access breaks, of those that were asked for
}

// sceneOf answers the scene of the graph fn.
func sceneOf(u api.Unit, fn int) (*scene, api.Errno) {
	r, e := region.Of(u, fn)
	if e != api.OK {
		return nil, e
	}
	u = thinned(u, fn)
	paths, e := move.Paths(u, fn)
	if e != api.OK {
		return nil, e
	}
	loans, _ := loan.Of(u, fn)
	return &scene{unit: u, fn: fn, points: u.Fns[fn].Points, regions: r, loans: loans, paths: paths, brokenBy: map[access]api.Row{}}, api.OK
}

// scenesOf answers the scenes of all graphs of a unit.
func scenesOf(u api.Unit) ([]*scene, api.Errno) {
	if len(u.Fns) == 0 {
		return nil, api.ErrArg
	}
	var l []*scene
	for fn := range u.Fns {
		s, e := sceneOf(u, fn)
		if e != api.OK {
			return nil, e
		}
		l = append(l, s)
	}
	return l, api.OK
}

// thinned is the unit with but the heads of all graphs other than fn. The layers below look at the whole unit anew in each call, and they are asked once a point; of what is called they ask the head alone.
func thinned(u api.Unit, fn int) api.Unit {
	fns := slices.Clone(u.Fns)
	for n, g := range fns {
		if n != fn {
			g.Locals, g.Names = g.Locals[:g.Params+1], g.Names[:g.Params+1]
			g.Points = []api.Point{{Op: api.Return}}
			fns[n] = g
		}
	}
	u.Fns = fns
	return u
}

// misfit tells which of these rows are not as many, or not as wide, as the graph's: 1 Rows, 2 Ranges, 3 Moves.
func (s *scene) misfit(c api.FnCert) (what int, is bool) {
	switch {
	case !areRows(c.Rows, s.regions.Count, region.Width(s.regions)):
		return 1, true
	case !areRows(c.Ranges, len(s.loans), len(s.points)):
		return 2, true
	case !areRows(c.Moves, len(s.paths), len(s.points)):
		return 3, true
	}
	return 0, false
}

// areRows tells whether these are so many rows that may be, each of that width.
func areRows(rows []api.Row, count, width int) bool {
	return len(rows) == count && !slices.ContainsFunc(rows, func(r api.Row) bool {
		return r.Width != width || !bits.May(r)
	})
}
