package rules

import (
	"slices"

	"loanword/api"
	"loanword/bits"
	"loanword/move"
	"loanword/outlive"
	"loanword/region"
)

const (
	firstRule = api.RuleSize
	lastRule  = api.RuleUse
)

// teller is told what of a rule is broken, and where.
type teller func(what, at int)

// held are rows of a graph that are of its size, to be held against the rules.
type held struct {
	*scene
	api.FnCert
}

// broken answers what of one rule is broken in these rows, in order. All but the size is asked only of rows that are of the graph's.
func (s *scene) broken(c api.FnCert, r api.Rule) []api.Broken {
	var l []api.Broken
	tell := func(what, at int) {
		l = append(l, api.Broken{Fn: s.fn, At: at, Rule: r, What: what})
	}
	h := held{s, c}
	of := [...]func(tell teller){h.live, h.flow, h.own, h.end, h.inForce, h.moved, h.unbroken, h.used}
	what, misfits := s.misfit(c)
	switch {
	case misfits && r == api.RuleSize:
		tell(what, 0)
	case !misfits && r >= api.RuleLive && r <= lastRule:
		of[r-api.RuleLive](tell)
	}
	return l
}

// first answers what is first broken in these rows, or that nothing is.
func (s *scene) first(c api.FnCert) (b api.Broken, kept bool) {
	for r := firstRule; r <= lastRule; r++ {
		if l := s.broken(c, r); len(l) > 0 {
			return l[0], false
		}
	}
	return api.Broken{}, true
}

// live: the regions in a local's type last where it is live.
func (h held) live(tell teller) { lacking(h.Rows, h.lives(), tell) }

// flow: a region's row has all of that of another one where a constraint asks so.
func (h held) flow(tell teller) {
	l, _ := outlive.Of(h.unit, h.fn)
	for n, c := range l {
		if bit, lacks, _ := bits.First(h.Rows[c.Long], h.Rows[c.Short]); lacks {
			tell(n, bit)
		}
	}
}

// own: a lifetime lasts through all of the graph, to its own end.
func (h held) own(tell teller) {
	for life := range h.regions.Lives {
		if bit, lacks, _ := bits.First(h.Rows[life], h.whole(life)); lacks {
			tell(life, bit)
		}
	}
}

// end: a lifetime lasts to the end of another one only if the signature says so.
func (h held) end(tell teller) {
	says := h.unit.Fns[h.fn].Outlives
	for life := range h.regions.Lives {
		for other := range h.regions.Lives {
			end := h.endOf(other)
			if other != life && bits.Get(h.Rows[life], end) && !slices.Contains(says, api.Outlives{Long: life, Short: other}) {
				tell(life, end)
			}
		}
	}
}

// inForce: a loan stays in force as long as its region lasts and nothing kills it.
func (h held) inForce(tell teller) {
	var lent []api.Row
	for _, l := range h.loans {
		lent = append(lent, h.Rows[l.Region])
	}
	lasts := turned(lent, region.Width(h.regions))
	must := rowsOf(len(h.points), len(h.loans))
	for q, in := range turned(h.Ranges, len(h.points)) {
		out := h.stay(q, in)
		for _, to := range successors(h.points[q]) {
			on, _ := bits.And(out, lasts[to])
			add(must[to], on)
		}
	}
	lacking(h.Ranges, turned(must, len(h.loans)), tell)
}

// moved: what may be without a value behind a point may be so ahead of what comes next.
func (h held) moved(tell teller) {
	must := h.start()
	for q, without := range turned(h.Moves, len(h.points)) {
		for _, to := range successors(h.points[q]) {
			add(must[to], h.behind(q, without))
		}
	}
	lacking(h.Moves, turned(must, len(h.paths)), tell)
}

// unbroken: no point breaks a loan that is in force there.
func (h held) unbroken(tell teller) {
	for q, in := range turned(h.Ranges, len(h.points)) {
		for loan := range bits.Each(h.broke(q, in)) {
			tell(loan, q)
		}
	}
}

// used: no point uses what may be without a value there, or what it has moved itself.
func (h held) used(tell teller) {
	for q, without := range turned(h.Moves, len(h.points)) {
		uses, _ := move.Uses(h.unit, h.fn, q)
		empty, _ := bits.And(h.rowOfPaths(uses...), without)
		add(empty, h.again(q))
		for path := range bits.Each(empty) {
			tell(path, q)
		}
	}
}
