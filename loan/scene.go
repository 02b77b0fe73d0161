package loan

import (
	"slices"

	"loanword/api"
	"loanword/bits"
	"loanword/region"
)

// scene is a graph of a unit that may be, with its loans.
type scene struct {
	structs []api.Struct
	locals  []api.Type
	points  []api.Point
	next    [][]int // of each point its successors, rising
	loans   []api.Loan
	regions api.Regions
}

// sceneOf answers the scene of the graph fn, if what else was handed in may be in it. That this may not be is told ahead of there being too many regions.
func sceneOf(u api.Unit, fn int, may func(s scene) bool) (scene, api.Errno) {
	r, e := region.Of(u, fn)
	if e == api.ErrArg {
		return scene{}, e
	}
	g := u.Fns[fn]
	if e == api.ErrPoint { // layer 13 tells nothing then, but rows must still be as many and as wide
		r = api.Regions{Lives: g.Lives, Points: len(g.Points), Count: regionCount(u, g), At: make([]int, len(g.Points))}
	}
	s := scene{structs: u.Structs, locals: g.Locals, points: g.Points, regions: r}
	for q, p := range g.Points {
		s.next = append(s.next, successors(p))
		if p.Op == api.Borrow {
			s.loans = append(s.loans, api.Loan{At: q, Place: p.From, Mut: p.Mut, Region: r.At[q]})
		}
	}
	if !may(s) {
		return scene{}, api.ErrArg
	}
	if e != api.OK {
		return scene{}, e
	}
	return s, api.OK
}

// regionCount tells how many regions a graph has, be they too many.
func regionCount(u api.Unit, g api.Graph) int {
	count := g.Lives
	for _, t := range g.Locals {
		for ; len(t.Of) > 0; t = t.Of[0] {
			if t.Kind == api.TyRef && t.Region < 0 {
				count++
			}
		}
	}
	for _, p := range g.Points {
		switch p.Op {
		case api.Borrow:
			count++
		case api.Call:
			count += u.Fns[p.Fn].Lives
		}
	}
	return count
}

// successors answers the points that may come behind p, rising. Layer 10 would look at the whole unit anew for each point; here the unit is known to be one that may be.
func successors(p api.Point) []int {
	switch {
	case p.Op == api.Return:
		return nil
	case p.Op == api.Branch && p.Else != p.Next:
		return []int{min(p.Next, p.Else), max(p.Next, p.Else)}
	}
	return []int{p.Next}
}

func (s scene) hasPoint(q int) bool { return q >= 0 && q < len(s.points) }

func (s scene) hasLoan(loan int) bool { return loan >= 0 && loan < len(s.loans) }

// areRows tells whether these may be the rows of the graph's regions.
func (s scene) areRows(rows []api.Row) bool {
	return areRows(rows, s.regions.Count, region.Width(s.regions))
}

// areRanges tells whether these may be the rows of the graph's loans.
func (s scene) areRanges(ranges []api.Row) bool {
	return areRows(ranges, len(s.loans), len(s.points))
}

// areRows tells whether these are so many rows that may be, each of that width.
func areRows(rows []api.Row, count, width int) bool {
	return len(rows) == count && !slices.ContainsFunc(rows, func(r api.Row) bool {
		return r.Width != width || !bits.May(r)
	})
}
