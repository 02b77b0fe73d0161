package move

import (
	"maps"
	"slices"
)

// set is a set of paths.
type set map[int]struct{}

func setOf(l []int) set {
	s := set{}
	for _, path := range l {
		s.put(path)
	}
	return s
}

func (s set) put(path int) { s[path] = struct{}{} }

func (s set) has(path int) bool {
	_, is := s[path]
	return is
}

func (s set) rising() []int { return slices.Sorted(maps.Keys(s)) }
