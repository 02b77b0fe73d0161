package region

import (
	"loanword/api"
	"loanword/graph"
)

// isGraph tells whether the unit may be and has a graph fn.
func isGraph(u api.Unit, fn int) bool {
	return fn >= 0 && fn < len(u.Fns) && graph.May(u)
}

// makerOf answers the regions of the graph fn, if there is such a point in it, and it is of the Op that is asked for.
func makerOf(u api.Unit, fn, point int, op api.PointOp) (api.Regions, api.Errno) {
	if !isGraph(u, fn) || point < 0 || point >= len(u.Fns[fn].Points) {
		return api.Regions{}, api.ErrArg
	}
	r, e := regionsOf(u, fn)
	if e != api.OK {
		return api.Regions{}, e
	}
	if u.Fns[fn].Points[point].Op != op {
		return api.Regions{}, api.ErrOp
	}
	return r, api.OK
}

// regionsOf numbers the regions of the graph fn of a unit that may be. All of them are counted ahead of the limit: a unit that may be has not so many that this takes long.
func regionsOf(u api.Unit, fn int) (api.Regions, api.Errno) {
	g := u.Fns[fn]
	r := api.Regions{Lives: g.Lives, Points: len(g.Points), Count: g.Lives}
	next := func(many int) int {
		r.Count += many
		return r.Count - many
	}
	for _, t := range g.Locals {
		r.Locals = append(r.Locals, turned(t, func(region int) int {
			if region >= 0 {
				return region
			}
			return next(1)
		}))
	}
	for _, p := range g.Points {
		first := -1
		if many := madeAt(u, p); many > 0 {
			first = next(many)
		}
		r.At = append(r.At, first)
	}
	if r.Count > api.MaxRegions {
		return api.Regions{}, api.ErrPoint
	}
	return r, api.OK
}

// madeAt tells how many regions the point p makes.
func madeAt(u api.Unit, p api.Point) int {
	switch p.Op {
	case api.Borrow:
		return 1
	case api.Call:
		return u.Fns[p.Fn].Lives
	}
	return 0
}
