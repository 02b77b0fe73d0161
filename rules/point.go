package rules

import (
	"loanword/api"
	"loanword/bits"
	"loanword/live"
	"loanword/loan"
	"loanword/move"
	"loanword/region"
)

// deed is what a point does to move paths, whatever is ahead of it: they are without a value behind it, or have one.
type deed struct{ gone, has api.Row }

// access is what can be held against another one of an api.Access.
type access struct {
	local, steps int
	path         [api.MaxSteps]api.Step
	depth        api.Depth
	write        bool
}

// successors answers the points that may come behind p. Layer 12 would look at the whole graph anew for each point.
func successors(p api.Point) []int {
	switch p.Op {
	case api.Return:
		return nil
	case api.Branch:
		return []int{p.Next, p.Else}
	}
	return []int{p.Next}
}

// endOf is the bit of the end of a lifetime.
func (s *scene) endOf(life int) int { return s.regions.Points + life }

// whole is what the row of a lifetime must have.
func (s *scene) whole(life int) api.Row {
	r := rowOf(region.Width(s.regions), s.endOf(life))
	for q := range s.points {
		put(r, q)
	}
	return r
}

// lives answers of each region the points at which a local is live in whose type it stands.
func (s *scene) lives() []api.Row {
	must := rowsOf(s.regions.Count, region.Width(s.regions))
	rows, _ := live.Of(s.unit, s.fn)
	for local, t := range s.regions.Locals {
		for ; len(t.Of) > 0; t = t.Of[0] {
			if t.Kind == api.TyRef {
				add(must[t.Region], rows[local])
			}
		}
	}
	return must
}

// stay answers the loans that come out of the point q, if these are in force there: what is lent there, and what it does not kill.
func (s *scene) stay(q int, in api.Row) api.Row {
	out := in
	if bits.Count(in) > 0 {
		killed, _ := loan.Kills(s.unit, s.fn, q)
		out, _ = bits.Clear(in, killed...)
	}
	for k, l := range s.loans {
		if l.At == q {
			out, _ = bits.Set(out, k)
		}
	}
	return out
}

// broke answers which of the loans in force at q the point breaks.
func (s *scene) broke(q int, in api.Row) api.Row {
	all := rowOf(len(s.loans))
	if bits.Count(in) > 0 {
		looks, _ := loan.Looks(s.unit, s.fn, q)
		for _, a := range looks {
			add(all, s.breaking(a))
		}
	}
	both, _ := bits.And(all, in)
	return both
}

// breaking answers the loans that an access breaks. Many points look at the same: layer 16 is asked of it once.
func (s *scene) breaking(a api.Access) api.Row {
	key := access{local: a.Place.Local, steps: len(a.Place.Path), depth: a.Depth, write: a.Write}
	copy(key.path[:], a.Place.Path)
	if r, is := s.brokenBy[key]; is {
		return r
	}
	r := rowOf(len(s.loans))
	for k, l := range s.loans {
		if l.Place.Local != a.Place.Local {
			continue
		}
		if is, _ := loan.Breaks(s.unit, s.fn, k, a); is {
			put(r, k)
		}
	}
	s.brokenBy[key] = r
	return r
}

// start answers the rows of points that say which paths are without a value ahead of the first one.
func (s *scene) start() []api.Row {
	rows := rowsOf(len(s.points), len(s.paths))
	gone, _ := move.Start(s.unit, s.fn)
	add(rows[0], s.rowOfPaths(gone...))
	return rows
}

// behind answers the paths that may be without a value behind q, if these may be so ahead of it.
func (s *scene) behind(q int, without api.Row) api.Row {
	if s.deeds == nil {
		for q := range s.points {
			gone, has, _ := move.Does(s.unit, s.fn, q)
			s.deeds = append(s.deeds, deed{s.rowOfPaths(gone...), s.rowOfPaths(has...)})
		}
	}
	r, _ := bits.Or(without, s.deeds[q].gone)
	r, _ = bits.Less(r, s.deeds[q].has)
	return r
}
