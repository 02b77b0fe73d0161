package graph

import (
	"loanword/api"
	"loanword/place"
	"loanword/types"
)

// head is a graph of which all but its points is looked at.
type head struct {
	api.Graph
	structs []api.Struct
	isMain  bool
}

// countsMay is asked first: all else is asked of lists that are no longer than they may be.
func (h head) countsMay() bool {
	switch {
	case h.Lives < 0 || h.Lives > api.MaxLives:
		return false
	case h.Params < 0 || h.Params > api.MaxParams:
		return false
	case len(h.Locals) <= h.Params || len(h.Locals) > api.MaxLocals:
		return false
	case len(h.Names) != len(h.Locals):
		return false
	}
	return len(h.Points) >= 1 && len(h.Points) <= api.MaxPoints
}

// localsMay asks layer 9 for one place, which may be just if all locals' types may: so the structs are looked at once, not for each local.
func (h head) localsMay() bool {
	if !place.May(h.structs, h.Locals, api.Place{}) {
		return false
	}
	for n, t := range h.Locals {
		for _, region := range types.Regions(t) {
			if region >= h.Lives || region < 0 && n <= h.Params {
				return false
			}
		}
	}
	return true
}

// relation says of each two lifetimes whether the first one outlives the second one.
type relation [api.MaxLives][api.MaxLives]bool

// outlivesMay is asked of a head whose locals may be: all of the signature's regions are lifetimes.
func (h head) outlivesMay() bool {
	var says relation
	last := api.Outlives{Long: -1}
	for _, o := range h.Outlives {
		if !h.isLife(o.Long) || !h.isLife(o.Short) || o.Long == o.Short || !rises(last, o) {
			return false
		}
		says[o.Long][o.Short] = true
		last = o
	}
	return says.isClosed() && says.hasImplied(h.Locals[:h.Params+1]...)
}

func (h head) isLife(n int) bool { return n >= 0 && n < h.Lives }

// rises tells whether b stands behind a: by Long, then by Short.
func rises(a, b api.Outlives) bool {
	return a.Long < b.Long || a.Long == b.Long && a.Short < b.Short
}

// isClosed tells whether all that two of it say together it says, but of a lifetime and itself.
func (r *relation) isClosed() bool {
	for long := range r {
		for via := range r {
			for short := range r {
				if r[long][via] && r[via][short] && long != short && !r[long][short] {
					return false
				}
			}
		}
	}
	return true
}

// hasImplied tells whether it says all that these types imply.
func (r *relation) hasImplied(signature ...api.Type) bool {
	all := true
	for _, t := range signature {
		imply(t, func(long, short int) {
			all = all && (long == short || r[long][short])
		})
	}
	return all
}

// imply tells what t implies: of each reference that all lifetimes in what it points to outlive its own.
func imply(t api.Type, tell func(long, short int)) {
	if len(t.Of) == 0 {
		return
	}
	if t.Kind == api.TyRef {
		for _, long := range types.Regions(t.Of[0]) {
			tell(long, t.Region)
		}
	}
	imply(t.Of[0], tell)
}

func (h head) loansMay() bool {
	loans := 0
	for _, p := range h.Points {
		if p.Op == api.Borrow {
			loans++
		}
	}
	return loans <= api.MaxLoans
}

func (h head) mainMay() bool {
	return !h.isMain || h.Lives == 0 && h.Params == 0 && h.Locals[0].Kind == api.TyInt
}
