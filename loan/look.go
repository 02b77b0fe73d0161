package loan

import (
	"loanword/api"
	"loanword/place"
)

// looks answers what the point q looks at, in order.
func (s scene) looks(q int) []api.Access {
	var l []api.Access
	look := func(p api.Place, d api.Depth, writes bool) {
		l = append(l, api.Access{Place: p, Depth: d, Write: writes})
	}
	p := s.points[q]
	for _, operands := range [...][]api.Operand{{p.A, p.B}, p.Args} {
		for _, o := range operands {
			if o.Kind == api.Copy || o.Kind == api.Move {
				look(o.Place, api.Deep, o.Kind == api.Move)
			}
		}
	}
	switch p.Op {
	case api.Borrow:
		look(p.From, api.Deep, p.Mut)
	case api.Drop, api.Dead:
		look(p.From, api.Dropping, true)
	case api.Return:
		look(api.Place{}, api.Deep, true)
		for local := 1; local < len(s.locals); local++ {
			look(api.Place{Local: local}, api.Dropping, true)
		}
	}
	if to, is := assigned(p); is {
		look(to, s.laying(to), true)
	}
	return l
}

// looksByLocal answers what the point q looks at, of each local apart: a Return looks at all locals, a loan is broken by what is of its own one alone.
func (s scene) looksByLocal(q int) map[int][]api.Access {
	byLocal := map[int][]api.Access{}
	for _, a := range s.looks(q) {
		byLocal[a.Place.Local] = append(byLocal[a.Place.Local], a)
	}
	return byLocal
}

// laying is how far it goes that something is laid into a place: what it has had is dropped.
func (s scene) laying(to api.Place) api.Depth {
	if s.drops(s.typeOf(to)) {
		return api.Dropping
	}
	return api.Shallow
}

// assigned answers the place that p assigns, if it does.
func assigned(p api.Point) (to api.Place, is bool) {
	switch p.Op {
	case api.Use, api.Binary, api.Unary, api.Borrow, api.Box, api.Make, api.Call, api.Read:
		return p.To, true
	}
	return api.Place{}, false
}

// kills tells whether behind the point q the loan's place is another one than that which was lent.
func (s scene) kills(q, loan int) bool {
	p := s.points[q]
	gone, is := assigned(p)
	if p.Op == api.Dead {
		gone, is = p.From, true
	}
	return is && place.Prefix(gone, s.loans[loan].Place)
}

// breaks tells whether an access breaks a loan.
func (s scene) breaks(a api.Access, loan int) bool {
	lent := s.loans[loan]
	if !a.Write && !lent.Mut {
		return false
	}
	return place.Prefix(lent.Place, a.Place) || place.Prefix(a.Place, lent.Place) && s.reaches(a, lent.Place)
}

// reaches tells whether an access goes as far as to p, of which its place is a prefix.
func (s scene) reaches(a api.Access, p api.Place) bool {
	for n := len(a.Place.Path); n < len(p.Path); n++ {
		if !passes(a.Depth, s.typeOf(api.Place{Local: p.Local, Path: p.Path[:n]})) {
			return false
		}
	}
	return true
}

// passes tells whether an access of that depth goes on by a step from a place of type t.
func passes(d api.Depth, t api.Type) bool {
	switch d {
	case api.Shallow:
		return t.Kind == api.TyStruct
	case api.Dropping:
		return t.Kind != api.TyRef
	}
	return t.Kind != api.TyRef || t.Mut
}

// typeOf is the type of a place of the graph. Layer 9 would look at all structs and locals anew for each place.
func (s scene) typeOf(p api.Place) api.Type {
	t := s.locals[p.Local]
	for _, step := range p.Path {
		if step == api.Deref {
			t = t.Of[0]
		} else {
			t = s.structs[t.Struct].Fields[step].Type
		}
	}
	return t
}

// drops tells whether t needs dropping.
func (s scene) drops(t api.Type) bool {
	switch t.Kind {
	case api.TyBox:
		return true
	case api.TyStruct:
		for _, f := range s.structs[t.Struct].Fields {
			if s.drops(f.Type) {
				return true
			}
		}
	}
	return false
}
