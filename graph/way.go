package graph

import "loanword/api"

// way is the type that a place comes to, and what it goes through.
type way struct {
	to          api.Type
	byReference bool // one of its steps is a Deref of a reference
	byShared    bool // of a shared one
}

// wayOf answers the way of p, and whether p is a place of this graph. Layer 9 would look at all structs and locals anew for each place; here both are known to be such as may be, and a unit has very many places.
func (x *scene) wayOf(p api.Place) (w way, ok bool) {
	locals := x.graph.Locals
	if p.Local < 0 || p.Local >= len(locals) || len(p.Path) > api.MaxSteps {
		return way{}, false
	}
	w.to = locals[p.Local]
	for _, step := range p.Path {
		if w, ok = x.stepOn(w, step); !ok {
			return way{}, false
		}
	}
	return w, true
}

// stepOn answers the way that is w and one step more, if there is one.
func (x *scene) stepOn(w way, step api.Step) (way, bool) {
	switch w.to.Kind {
	case api.TyStruct:
		fields := x.unit.Structs[w.to.Struct].Fields
		if step < 0 || int(step) >= len(fields) {
			return way{}, false
		}
		w.to = fields[step].Type
		return w, true
	case api.TyRef:
		w.byReference = true
		w.byShared = w.byShared || !w.to.Mut
		fallthrough
	case api.TyBox:
		w.to = w.to.Of[0]
		return w, step == api.Deref
	}
	return way{}, false
}
