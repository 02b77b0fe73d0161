package flow

import "slices"

// state says how far the walk is with a point.
type state uint8

const (
	isNew  state = iota // it has not come there
	isOpen              // it has come there, and has not left
	isLeft
)

// stand is a point at which the walk has not finished, and how many of its successors it has looked at.
type stand struct {
	at, looked int
}

// walk goes from point 0 on, at each point to one successor after the other, and answers the order and the edges back.
func (n net) walk() (order []int, back [][2]int) {
	states := make([]state, len(n))
	states[0] = isOpen
	trail := []stand{{at: 0}}
	for len(trail) > 0 {
		last := len(trail) - 1
		from := trail[last].at
		if trail[last].looked == len(n[from]) {
			states[from] = isLeft
			order = append(order, from)
			trail = trail[:last]
			continue
		}
		to := n[from][trail[last].looked]
		trail[last].looked++
		switch states[to] {
		case isNew:
			states[to] = isOpen
			trail = append(trail, stand{at: to})
		case isOpen:
			back = append(back, [2]int{from, to})
		}
	}
	slices.Reverse(order)
	return order, back
}
