package outlive

import "loanword/api"

// taker takes a constraint down.
type taker func(long, short int)

// listed answers all constraints that tell tells, in order.
func listed(tell func(take taker)) []api.Constraint {
	var l []api.Constraint
	tell(func(long, short int) {
		l = append(l, api.Constraint{Long: long, Short: short})
	})
	return l
}

// flow tells what it asks that a type flows into another one of the same shape. Layer 6's Asks would refuse references that have no region yet. What stands behind a mutable reference can be read and laid by it, so there each of the two regions must have all of the other one.
func flow(from, into api.Type, behindMut bool, take taker) {
	switch from.Kind {
	case api.TyBox:
		flow(from.Of[0], into.Of[0], behindMut, take)
	case api.TyRef:
		take(from.Region, into.Region)
		if behindMut {
			take(into.Region, from.Region)
		}
		flow(from.Of[0], into.Of[0], behindMut || from.Mut, take)
	}
}
