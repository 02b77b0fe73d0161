package rules_test

import (
	"fmt"
	"slices"
	"strings"
	"testing"

	"loanword/api"
	"loanword/rules"
)

// repeat is a text so many times, with a sign between each two.
func repeat(s, sign string, n int) string {
	return strings.Join(slices.Repeat([]string{s}, n), sign)
}

// great is a unit whose graph 1 has a lifetime, so many locals with two references, one with one, and Borrows: of so many regions in all.
func great(regions, borrows int) api.Unit {
	var l []string
	for left := regions - 2 - borrows; left > 0; left -= 2 {
		l = append(l, map[bool]string{true: "& &i64", false: "&i64"}[left > 1])
	}
	return unitOf(graphOf(1, 0, "i64; &i64; "+strings.Join(l, "; "), "_0 = 1; "+repeat("_1 = & _0; ", "", borrows)+"return"), graphOf(0, 0, "i64", "_0 = 1; return"))
}

// P18.1, P18.2: as many regions and loans as may be, all of one place.
func TestMostRegions(t *testing.T) {
	u := great(api.MaxRegions, api.MaxLoans)
	mustMay(t, u)
	if s := sizeOf(t, u, 1); s.regions != 512 || s.loans != 256 || s.points != 258 || s.width != 259 {
		t.Fatal(s)
	}
	mustKeep(t, u, 1, true)
	c := whole(t, u, 1)
	c.Moves[0] = rowOf(258, 0)
	var want []string
	for _, at := range []int{0, 257} {
		for k := range 256 {
			want = append(want, fmt.Sprint("break ", k, " ", at))
		}
	}
	mustTell(t, u, 1, c, strings.Join(want, ", "))
	c.Rows[511] = rowOf(259)
	c.Ranges[255] = full(257)
	mustTell(t, u, 1, c, "size 2 0")
	c.Ranges[255] = rowOf(258)
	mustTellFirst(t, u, 1, c, []api.Broken{{Fn: 1, At: 0, Rule: api.RuleFlow, What: 255}})
	c.Ranges = c.Ranges[1:]
	c.Rows = append(c.Rows, full(259))
	mustTell(t, u, 1, c, "size 1 0")
}

// tooGreat are units whose graph 1 has too many regions, too many move paths, both; their graph 2 may be asked.
func tooGreat() map[string]api.Unit {
	two := "; " + repeat("i64", "; ", 255)
	return map[string]api.Unit{
		"a region too many":  great(513, 256),
		"regions of Calls":   unitOf(graphOf(1, 0, "i64; &i64", repeat("_1 = f3(copy _1); ", "", 64)+"return"), graphOf(0, 0, "i64", "_0 = 1; return"), graphOf(8, 1, "&'7 i64; &'0 i64", "return")),
		"a path too many":    unitOf(graphOf(0, 0, "i64; #0"+two, "return"), graphOf(0, 0, "i64", "_0 = 1; return")),
		"a field too many":   unitOf(graphOf(0, 0, "i64"+two, "_0 = 1; return"), graphOf(0, 0, "i64", "_0 = 1; return")),
		"very many paths":    unitOf(graphOf(0, 0, "i64"+two+two, "return"), graphOf(0, 0, "i64", "_0 = 1; return")),
		"regions, and paths": unitOf(graphOf(0, 0, "i64; & & &i64"+strings.Repeat("; & & &i64", 300), "return"), graphOf(0, 0, "i64", "_0 = 1; return")),
	}
}

// P18.1, P18.2: one region, one move path too many, or very many: ErrPoint, behind ErrArg, ahead of what the rows are; of a program, if it is so of any function.
func TestTooGreat(t *testing.T) {
	for what, u := range tooGreat() {
		mustMay(t, u)
		if what == "a field too many" { // as many as may be
			mustAnswer(t, what, u, 1, api.FnCert{}, api.Cert{Fns: make([]api.FnCert, 3)}, "", api.OK)
			u.Structs = structs
			u.Fns[1].Locals[1] = typeOf("#0")
			u.Fns[1].Points[0] = pointOf("_0 = copy _1.0", 0)
			mustMay(t, u)
		}
		all := api.Cert{Fns: make([]api.FnCert, len(u.Fns))}
		mustAnswer(t, what, u, 1, api.FnCert{}, all, "", api.ErrPoint)
		mustAnswer(t, what, u, 1, api.FnCert{Rows: []api.Row{{Width: -1}}}, all, "", api.ErrPoint)
		for _, fn := range []int{-1, len(u.Fns)} {
			mustAnswer(t, what, u, fn, api.FnCert{}, all, ofFunctions, api.ErrPoint)
		}
		for _, n := range []int{0, len(u.Fns) - 1, len(u.Fns) + 1} {
			mustAnswer(t, what, u, 1, api.FnCert{}, api.Cert{Fns: make([]api.FnCert, n)}, "Unit", api.ErrPoint)
		}
		// the program is refused, whatever the functions ahead break; the others are asked as ever
		if is, e := rules.Keeps(u, 0); is || e != api.OK {
			t.Errorf("%s: %v, %v", what, is, e)
		}
		mustKeep(t, u, 2, true)
		mustTell(t, u, 2, certOf(t, u, 2, "", "", "0"), "")
		u.Main = len(u.Fns)
		mustAnswer(t, what, u, 1, api.FnCert{}, all, everything, api.ErrPoint)
	}
}

// P18.1, P18.2: rows of as many points as one, two words have, of one more or less, of as many as may be, with the ends of as many lifetimes.
func TestWidths(t *testing.T) {
	for _, n := range []int{1, 2, 55, 56, 57, 63, 64, 65, 120, 121, 128, api.MaxPoints} {
		u := unitOf(graphOf(8, 1, "&'7 i64; &'7 i64", repeat("goto; ", "", n-1)+"return"))
		if n > 1 {
			u.Fns[1].Points[n-2] = pointOf("_0 = copy _1", n-2)
		}
		mustMay(t, u)
		mustKeep(t, u, 1, n > 1)
		c := own(api.FnCert{Rows: slices.Repeat([]api.Row{full(n)}, 8), Moves: []api.Row{full(n - 1), rowOf(n)}})
		for k := range c.Rows {
			c.Rows[k] = rowOf(n+8, append(count(0, n), n+k)...)
		}
		c.Moves[0] = rowOf(n, count(0, n-1)...)
		told := func(want ...api.Broken) {
			t.Helper()
			mustTellFirst(t, u, 1, c, want)
		}
		if n > 1 {
			told()
			c.Moves[0].Words[(n-2)/64] &^= 1 << ((n - 2) % 64)
			told(api.Broken{Fn: 1, Rule: api.RuleMoved, At: n - 2})
		}
		c.Rows[0].Words[(n+7)/64] |= 1 << ((n + 7) % 64)
		told(api.Broken{Fn: 1, Rule: api.RuleEnd, At: n + 7})
		c.Rows[7].Words[(n+7)/64] &^= 1 << ((n + 7) % 64)
		told(api.Broken{Fn: 1, Rule: api.RuleOwn, What: 7, At: n + 7})
		c.Rows[7].Words[(n-1)/64] &^= 1 << ((n - 1) % 64)
		told(api.Broken{Fn: 1, Rule: api.RuleLive, What: 7, At: n - 1})
		c.Rows[3] = rowOf(n + 7)
		told(api.Broken{Fn: 1, Rule: api.RuleSize, What: 1})
	}
}

// P18.2: a graph of as many points as may be, gone through from behind: what is moved comes a long way.
func TestGreatGraph(t *testing.T) {
	steps := []string{"_1 = &mut _0", "_1.* = 3", "_2 = box copy _0", "_3 = move _2"}
	l := []string{"_0 = 1 -> 1023", "return"}
	for q := 2; q < api.MaxPoints; q++ {
		l = append(l, fmt.Sprintf("%s -> %d", steps[(1023-q)%4], q-1))
	}
	u := unitOf(graphOf(0, 0, "i64; &mut i64; Box<i64>; Box<i64>", strings.Join(l, "; ")))
	mustMay(t, u)
	if s := sizeOf(t, u, 1); s.points != 1024 || s.loans != 256 || s.paths != 4 {
		t.Fatal(s)
	}
	mustKeep(t, u, 1, true)
	u.Fns[1].Points[2] = pointOf("_3 = move _2 -> 1", 2) // so did the point 4
	mustKeep(t, u, 1, false)
}

// P18.1, P18.2: of other graphs, as great as may be, it asks what calls of them ask alone.
func TestOthersAreGreat(t *testing.T) {
	g := graphOf(0, 8, "i64"+strings.Repeat("; #0", 8)+strings.Repeat("; Box<i64>", 150), repeat("_0 = f1(move _1, move _2, move _3, move _4, move _5, move _6, move _7, move _8); ", "", 1023)+"return")
	u := unitOf(slices.Repeat([]api.Graph{g}, api.MaxItems-2)...)
	small := "_1 = #0(1, move _2); _0 = f1(move _1, move _3, move _3, move _3, move _3, move _3, move _3, move _3); return"
	u.Fns = append(u.Fns, graphOf(0, 0, "i64; #0; Box<i64>; #0", "_2 = box 1; "+small))
	mustMay(t, u)
	if len(u.Fns) != api.MaxItems || len(u.Fns[1].Points) != api.MaxPoints {
		t.Fatal(len(u.Fns))
	}
	mustKeep(t, u, 31, false)
	m := matterOf(t, unitOf(g, u.Fns[31]), 2)
	for _, c := range []api.FnCert{empty(t, u, 31), whole(t, u, 31), m.least()} {
		if got, want := said(brokenOf(t, u, 31, c)...), said(m.broken(c)...); got != want || got == "" {
			t.Errorf("%s; want %s", got, want)
		}
	}
}
