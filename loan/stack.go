package loan

// stack is a list of work: what came last is taken first.
type stack[T any] struct{ left []T }

func (s *stack[T]) put(x T) { s.left = append(s.left, x) }

func (s *stack[T]) take() (x T, ok bool) {
	last := len(s.left) - 1
	if last < 0 {
		return x, false
	}
	x, s.left = s.left[last], s.left[:last]
	return x, true
}
