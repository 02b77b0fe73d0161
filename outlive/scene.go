package outlive

import (
	"slices"

	"loanword/api"
	"loanword/region"
)

// scene is a graph of a unit that may be, and its regions.
type scene struct {
	unit    api.Unit
	points  []api.Point
	regions api.Regions
}

// sceneOf answers the scene of the graph fn, if it has that point. That there is no such point is told ahead of there being too many regions.
func sceneOf(u api.Unit, fn, point int) (scene, api.Errno) {
	r, e := region.Of(u, fn)
	if e != api.ErrArg && !isBelow(len(u.Fns[fn].Points), point) {
		e = api.ErrArg
	}
	if e != api.OK {
		return scene{}, e
	}
	return scene{unit: u, points: u.Fns[fn].Points, regions: r}, api.OK
}

// tellOnce tells the constraints of all points, each where it stands first, without those of a region and itself.
func (s scene) tellOnce(take taker) {
	met := map[api.Constraint]struct{}{}
	takeFirst := func(long, short int) {
		c := api.Constraint{Long: long, Short: short}
		if _, is := met[c]; is || long == short {
			return
		}
		met[c] = struct{}{}
		take(long, short)
	}
	for q := range s.points {
		s.tell(q, takeFirst)
	}
}

// tell tells the constraints of the point q.
func (s scene) tell(q int, take taker) {
	switch p := s.points[q]; p.Op {
	case api.Use:
		s.lay(p.A, s.typeOf(p.To), take)
	case api.Box:
		s.lay(p.A, s.typeOf(p.To).Of[0], take)
	case api.Borrow:
		s.borrow(q, take)
	case api.Call:
		s.call(q, take)
	}
}

// lay tells what it asks that o is laid where a type is asked. What stands within a constant has no regions.
func (s scene) lay(o api.Operand, into api.Type, take taker) {
	if o.Kind == api.Copy || o.Kind == api.Move {
		flow(s.typeOf(o.Place), into, false, take)
	}
}

// borrow tells what the Borrow at q asks. The references through which it goes must last as long as what it makes; but what is behind a shared one stays as it is, whatever becomes of those by which one came there: so those ahead of a shared one need not.
func (s scene) borrow(q int, take taker) {
	p := s.points[q]
	own := s.regions.At[q]
	from, through := s.way(p.From)
	made := api.Type{Kind: api.TyRef, Mut: p.Mut, Region: own, Of: []api.Type{from}}
	flow(made, s.typeOf(p.To), false, take)
	for _, reference := range slices.Backward(through) {
		take(reference.Region, own)
		if !reference.Mut {
			return
		}
	}
}

// call tells what the Call at q asks. Layer 13's Called would look at the whole unit anew for each Call; here the unit is known to be one that may be.
func (s scene) call(q int, take taker) {
	p := s.points[q]
	called := s.unit.Fns[p.Fn]
	var lives []int
	for k := range called.Lives {
		lives = append(lives, s.regions.At[q]+k)
	}
	for k, o := range p.Args {
		param, _ := region.Turn(called.Locals[1+k], lives)
		s.lay(o, param, take)
	}
	answer, _ := region.Turn(called.Locals[0], lives)
	flow(answer, s.typeOf(p.To), false, take)
	for _, o := range called.Outlives {
		take(lives[o.Long], lives[o.Short])
	}
}

// typeOf is the type of a place of the graph, with the locals' regions.
func (s scene) typeOf(p api.Place) api.Type {
	to, _ := s.way(p)
	return to
}

// way answers the type of a place of the graph, and the references through which one goes there, the first one first.
func (s scene) way(p api.Place) (to api.Type, through []api.Type) {
	to = s.regions.Locals[p.Local]
	for _, step := range p.Path {
		if step != api.Deref {
			to = s.unit.Structs[to.Struct].Fields[step].Type
			continue
		}
		if to.Kind == api.TyRef {
			through = append(through, to)
		}
		to = to.Of[0]
	}
	return to, through
}
