package live

import (
	"slices"

	"loanword/api"
)

// point is one of a unit that may be: whatever its Op does not name is zero, so no Op need be asked where a zero says enough.
type point api.Point

// uses tells the locals that the point uses, each as often as it does.
func (p point) uses(yield func(local int) bool) {
	for _, l := range [...][]api.Operand{{p.A, p.B}, p.Args} {
		for _, o := range l {
			if (o.Kind == api.Copy || o.Kind == api.Move) && !yield(o.Place.Local) {
				return
			}
		}
	}
	if p.Op == api.Borrow && !yield(p.From.Local) {
		return
	}
	if p.Op == api.Return && !yield(0) {
		return
	}
	if slices.Contains(p.To.Path, api.Deref) {
		yield(p.To.Local)
	}
}

// leaves answers the local that has not what it had behind the point: one that is assigned whole, or is Dead.
func (p point) leaves() (local int, ok bool) {
	switch p.Op {
	case api.Dead:
		return p.From.Local, true
	case api.Use, api.Binary, api.Unary, api.Borrow, api.Box, api.Make, api.Call, api.Read:
		if len(p.To.Path) == 0 {
			return p.To.Local, true
		}
	}
	return 0, false
}

// points are those of a graph.
type points []api.Point

// ends answers the local that ends at the point q, if one does.
func (l points) ends(q int) (local int, ok bool) {
	p := point(l[q])
	local, ok = p.leaves()
	if !ok {
		return 0, false
	}
	for used := range p.uses {
		if used == local {
			return 0, false
		}
	}
	return local, true
}

// successors answers the points that may come behind q, rising. Layer 12 would look at the whole unit anew for each point; here the unit is known to be one that may be.
func (l points) successors(q int) []int {
	p := l[q]
	switch {
	case p.Op == api.Return:
		return nil
	case p.Op == api.Branch && p.Else != p.Next:
		return []int{min(p.Next, p.Else), max(p.Next, p.Else)}
	}
	return []int{p.Next}
}
