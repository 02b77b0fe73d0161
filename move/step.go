package move

import "loanword/api"

// tally is what has come of the steps of a point that were gone.
type tally struct {
	gone, has   set // which paths are without a value, which have got one
	used, again set // which were used; which of them when they were without a value
}

// step goes one step of a point.
type step func(t *tally)

// goThrough goes all steps of the point q, these paths being without a value ahead of it.
func (s scene) goThrough(q int, gone set) tally {
	t := tally{gone: gone, has: set{}, used: set{}, again: set{}}
	for _, step := range s.steps(s.points[q]) {
		step(&t)
	}
	return t
}

func (t *tally) use(paths ...int) {
	for _, p := range paths {
		t.used.put(p)
		if t.gone.has(p) {
			t.again.put(p)
		}
	}
}

func (t *tally) take(paths ...int) {
	for _, p := range paths {
		t.gone.put(p)
	}
}

func (t *tally) give(paths ...int) {
	for _, p := range paths {
		t.has.put(p)
		delete(t.gone, p)
	}
}

// steps answers what is done at p, step by step.
func (s scene) steps(p api.Point) []step {
	var l []step
	for _, o := range operands(p) {
		l = append(l, s.reading(o.Place))
		if o.Kind == api.Move {
			l = append(l, s.ending(o.Place))
		}
	}
	switch p.Op {
	case api.Borrow:
		l = append(l, s.reading(p.From))
	case api.Drop, api.Dead:
		l = append(l, s.ending(p.From))
	case api.Return:
		l = append(l, s.reading(api.Place{}))
	}
	if to, is := assigned(p); is {
		l = append(l, s.laying(to))
	}
	return l
}

// reading uses what is read, lent, answered: all of it, and what it lies in.
func (s scene) reading(p api.Place) step {
	path, through := s.pathOf(p)
	uses := s.above(path)
	if !through {
		uses = append(uses, s.below(path)...)
	}
	return func(t *tally) { t.use(uses...) }
}

// ending takes the value of what is moved, dropped, dead. That goes through no reference.
func (s scene) ending(p api.Place) step {
	path, _ := s.pathOf(p)
	ends := s.below(path)
	return func(t *tally) { t.take(ends...) }
}

// laying uses what a place lies in, and gives the place a value. By way of a reference nothing of the graph's own gets one.
func (s scene) laying(p api.Place) step {
	path, through := s.pathOf(p)
	uses := s.above(path)
	if through {
		return func(t *tally) { t.use(uses...) }
	}
	gets := s.below(path)
	return func(t *tally) {
		t.use(uses[:len(uses)-1]...)
		t.give(gets...)
	}
}

// pathOf answers the path on which a place of a point stands, and whether the place goes on from there through a reference.
func (s scene) pathOf(p api.Place) (path int, through bool) {
	held := s.held(p)
	path, _ = s.find(held)
	return path, len(held.Path) < len(p.Path)
}

// operands answers the operands of p that are places, in order.
func operands(p api.Point) []api.Operand {
	var l []api.Operand
	for _, list := range [...][]api.Operand{{p.A, p.B}, p.Args} {
		for _, o := range list {
			if o.Kind == api.Copy || o.Kind == api.Move {
				l = append(l, o)
			}
		}
	}
	return l
}

// assigned answers the place that p assigns, if it does.
func assigned(p api.Point) (to api.Place, is bool) {
	switch p.Op {
	case api.Use, api.Binary, api.Unary, api.Borrow, api.Box, api.Make, api.Call, api.Read:
		return p.To, true
	}
	return api.Place{}, false
}
