package rules

import (
	"slices"

	"loanword/api"
	"loanword/loan"
	"loanword/outlive"
)

// keeps tells whether there are rows in which nothing is broken: there are, if nothing is in the least ones, since of what has more no less is broken.
func (s *scene) keeps() bool {
	_, kept := s.first(s.least())
	return kept
}

// least answers the least rows that keep the rules by which rows must have something.
func (s *scene) least() api.FnCert {
	rows := s.leastRows()
	ranges, _ := loan.Ranges(s.unit, s.fn, rows)
	return api.FnCert{Rows: rows, Ranges: ranges, Moves: s.leastMoves()}
}

// leastRows answers those of regions. What flows comes from behind, mostly, so the constraints are taken from behind.
func (s *scene) leastRows() []api.Row {
	rows := s.lives()
	for life := range s.regions.Lives {
		add(rows[life], s.whole(life))
	}
	l, _ := outlive.Of(s.unit, s.fn)
	slices.Reverse(l)
	settle(len(l), func(n int) bool { return add(rows[l[n].Long], rows[l[n].Short]) })
	return rows
}

// leastMoves answers those of move paths.
func (s *scene) leastMoves() []api.Row {
	rows := s.start()
	settle(len(s.points), func(q int) bool {
		changed := false
		for _, to := range successors(s.points[q]) {
			changed = add(rows[to], s.behind(q, rows[q])) || changed
		}
		return changed
	})
	return turned(rows, len(s.paths))
}

// settle takes so many steps, one after the other, round and round, till as many in a row have changed nothing.
func settle(steps int, changes func(step int) bool) {
	quiet := 0
settling:
	for steps > 0 {
		for step := range steps {
			if changes(step) {
				quiet = 0
				continue
			}
			if quiet++; quiet == steps {
				break settling
			}
		}
	}
}
