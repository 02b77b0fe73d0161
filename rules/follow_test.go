package rules_test

import (
	"slices"
	"testing"

	"loanword/api"
	"loanword/loan"
	"loanword/rules"
)

// ofRule are those of one rule.
func ofRule(l []api.Broken, of ...api.Rule) []api.Broken {
	return slices.DeleteFunc(slices.Clone(l), func(b api.Broken) bool { return !slices.Contains(of, b.Rule) })
}

// mustStay asks that all that is broken in some rows is so in others that have more.
func mustStay(t *testing.T, u api.Unit, less, more api.FnCert) {
	t.Helper()
	after := brokenOf(t, u, 1, more)
	for _, b := range ofRule(brokenOf(t, u, 1, less), api.RuleEnd, api.RuleBreak, api.RuleUse) {
		if !slices.Contains(after, b) {
			t.Fatalf("%s: %s is broken in %s, not in %s", textOf(u, 1), said(b), written(less), written(more))
		}
	}
}

// mustStayKept asks that what is not broken of live and own in some rows is not so in others that have more.
func mustStayKept(t *testing.T, u api.Unit, less, more api.FnCert) {
	t.Helper()
	before := brokenOf(t, u, 1, less)
	for _, b := range ofRule(brokenOf(t, u, 1, more), api.RuleLive, api.RuleOwn) {
		if !slices.ContainsFunc(before, func(x api.Broken) bool {
			return x.Rule == b.Rule && x.What == b.What && (x.At == b.At || b.Rule == api.RuleOwn && x.At < b.At)
		}) {
			t.Fatalf("%s: %s is broken in %s, not in %s", textOf(u, 1), said(b), written(more), written(less))
		}
	}
}

// P18.3: of graphs by chance, whatever bits are put into whatever rows.
func TestTwoKinds(t *testing.T) {
	c := byChance(183)
	for range 30 {
		u := c.unit(1 + c.Intn(16))
		less := c.rows(leastOf(t, u, 1), 10)
		for range 4 {
			mustStay(t, u, less, c.more(less, true))
			more := c.more(less, false)
			mustStay(t, u, less, more)
			mustStayKept(t, u, less, more)
			less = more
		}
	}
}

// P18.3: each bit of each row of a program, put in alone.
func TestTwoKindsBitByBit(t *testing.T) {
	u := lowered(t, main("let x = 1; let b = box(1); let r = &mut x; x = 2; *r = 3; let c = b; return *b;"))
	u.Fns = append([]api.Graph{{}}, u.Fns...)
	u.Fns[0], u.Main = graphOf(0, 0, "i64", "return"), 1
	least := leastOf(t, u, 1)
	for _, c := range []api.FnCert{least, empty(t, u, 1)} {
		for n := range 3 {
			for k := range [][]api.Row{c.Rows, c.Ranges, c.Moves}[n] {
				more := own(c)
				r := [][]api.Row{more.Rows, more.Ranges, more.Moves}[n][k]
				for bit := range r.Width {
					r.Words[0] |= 1 << bit
					mustStay(t, u, c, more)
					mustStayKept(t, u, c, more)
				}
			}
		}
	}
}

// P18.4: Unit finds nothing just if Broken of each function finds nothing; else what First tells of the first that has something.
func TestUnitIsFirst(t *testing.T) {
	c := byChance(184)
	kept := 0
	for range 40 {
		u := c.mild(1 + c.Intn(6))
		for fn := range u.Fns {
			if fn != 1 && c.Intn(20) > 0 {
				u.Fns[fn].Points = []api.Point{{Op: api.Goto}} // what never answers keeps the rules, but for ends
			}
		}
		var all api.Cert
		var want api.Broken
		for fn := range u.Fns {
			least := leastOf(t, u, fn)
			if c.Intn(20) == 0 {
				least = c.rows(least, 50)
			}
			all.Fns = append(all.Fns, least)
			l := brokenOf(t, u, fn, least)
			if len(l) > 0 && want.Rule == api.NoRule {
				want = l[0]
			}
		}
		b, is, e := rules.Unit(u, all)
		if b != want || is != (want.Rule == api.NoRule) || e != api.OK {
			t.Fatalf("%v, %v, %v; want %v", b, is, e, want)
		}
		if is {
			kept++
		}
	}
	if kept < 5 || kept > 35 {
		t.Errorf("%d are kept", kept)
	}
}

// P18.5: rows in which nothing is broken are there just if nothing is in the least ones; Keeps says so; whatever rows have nothing wanting have all of the least ones, and all that is broken of these.
func TestSomeOrTheLeast(t *testing.T) {
	c := byChance(185)
	kept := 0
	some := 0
	for n := range 60 {
		u := c.unit(1 + c.Intn(9))
		if n%4 > 0 {
			u = c.mild(1 + c.Intn(9))
		}
		least := leastOf(t, u, 1)
		l := brokenOf(t, u, 1, least)
		mustKeep(t, u, 1, len(l) == 0)
		if len(l) == 0 {
			kept++
		}
		for range 3 {
			more := mended(t, u, 1, c.rows(empty(t, u, 1), 90), func(c api.FnCert) []api.Broken { return brokenOf(t, u, 1, c) })
			mustHaveAll(t, u, more, least)
			mustStay(t, u, least, more)
			if len(brokenOf(t, u, 1, more)) == 0 {
				mustKeep(t, u, 1, true)
				some++
			}
		}
	}
	if kept < 10 || kept > 50 || some < 10 {
		t.Errorf("%d are kept; rows that have more, in which nothing is broken: %d", kept, some)
	}
}

// P18.5: the least rows of loans are those of layer 16, by the least rows of regions.
func TestLeastRanges(t *testing.T) {
	c := byChance(186)
	for range 30 {
		u := c.unit(1 + c.Intn(20))
		least := leastOf(t, u, 1)
		ranges, e := loan.Ranges(u, 1, least.Rows)
		if e != api.OK || !slices.EqualFunc(ranges, least.Ranges, func(a, b api.Row) bool { return slices.Equal(a.Words, b.Words) }) {
			t.Fatalf("%s: %v, %v, %v", textOf(u, 1), listsOf(ranges), listsOf(least.Ranges), e)
		}
	}
}
