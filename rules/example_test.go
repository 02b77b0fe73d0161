package rules_test

import (
	"fmt"
	"slices"
	"strings"
	"testing"

	"loanword/api"
	"loanword/move"
	"loanword/outlive"
	"loanword/rules"
)

// example is the graph of layer 16's example.
func example() api.Unit {
	return api.Unit{Fns: []api.Graph{graphOf(0, 0, "i64; i64; &mut i64; Box<i64>", "_2 = &mut _1; _1 = 2; _2.* = 3; return")}}
}

// P18.1: the chapter's examples. (Besides, _1 is lent and _0 answered without a value.)
func TestExamples(t *testing.T) {
	u := example()
	mustMay(t, u)
	if l, e := outlive.Of(u, 0); e != api.OK || len(l) != 1 || l[0] != (api.Constraint{Long: 1, Short: 0}) {
		t.Fatal(l, e)
	}
	const moves = "0 1 2 3; 0 1; 0; 0 1 2 3"
	mustTell(t, u, 0, api.FnCert{}, "size 1 0")
	mustTell(t, u, 0, certOf(t, u, 0, "1 2; ", " ", moves), "flow 0 1, use 1 0, use 0 3")
	mustTell(t, u, 0, certOf(t, u, 0, "1 2; 1 2", " ", moves), "range 0 1, use 1 0, use 0 3")
	mustTell(t, u, 0, certOf(t, u, 0, "1 2; 1 2", "1", moves), "break 0 1, use 1 0, use 0 3")
	mustTell(t, u, 0, certOf(t, u, 0, "1 2; 1 2", "1", "; ; ; "), "moved 0 0, moved 1 0, moved 2 0, moved 3 0, break 0 1")
	mustKeep(t, u, 0, false)
}

// main is a program of these statements.
func main(s string) string { return "fn main() -> i64 { " + s + " }" }

// whats are programs, DOC.md's ten examples first, and the rules that their least rows break, function by function (none: the program keeps them).
var whats = []struct{ text, rules string }{
	{main("let x = 1; let r = &x; print(*r); return x;"), ""},
	{main("let x = 1; let r = &mut x; x = 2; *r = 3; return x;"), "break"},
	{main("let x = 1; let r = &mut x; *r = 3; x = 2; return x;"), ""},
	{main("let b = box(1); let c = b; return *b;"), "use"},
	{main("let b = box(1); let r = &*b; b = box(2); return *r;"), "break"},
	{main("return 0;") + "fn f<'a>(x: &'a i64, y: &i64) -> &'a i64 { return y; }", "; end"},
	{main("return 0;") + "fn f<'a, 'b: 'a>(x: &'a i64, y: &'b i64) -> &'a i64 { return y; }", "; "},
	{main("let c = true; let z = 0; let r = &z; while c { let y = 1; r = &y; } return *r;"), "break"},
	{main("let x = read() / 0; return x;"), ""},
	{main("loop { let b = box(1); }"), ""},
	// loans
	{main("let c = true; let z = 0; let r = &z; while c { let y = 1; r = &y; c = *r == 1; r = &z; } return *r;"), ""},
	{main("let b = box(1); let r = &*b; let c = b; return *r;"), "break"},
	{main("let b = box(1); let r = &*b; let y = *r; b = box(2); return y;"), ""},
	{main("let x = 1; let r = &mut x; let s = &mut *r; *r = 2; *s = 3; return x;"), "break"},
	{main("let x = 1; let r = &mut x; let s = &mut *r; *s = 2; *r = 3; return x;"), ""},
	{main("let x = 1; let y = 2; let r = &mut x; let s = &*r; r = &mut y; *r = 3; return *s;"), ""},
	{main("let x = 1; let r = &x; let s = &mut x; *s = 2; return *r;"), "break"},
	{main("let x = 1; let y = 2; let r = &mut x; while *r < 9 { r = &mut y; *r = *r + 1; x = 4; } return x;"), ""},
	{main("let x = 1; let y = 2; let r = &mut x; while y < 9 { *r = y; y = y + 1; x = 4; } return x;"), "break"},
	// moves
	{main("let x: i64; return x;"), "use"},
	{main("let x: i64; if read() == 1 { x = 2; } return x;"), "use"},
	{main("let x: i64; if read() == 1 { x = 2; } else { x = 3; } return x;"), ""},
	{main("let b = box(1); while read() == 0 { let c = b; } return 0;"), "use"},
	{main("let b = box(1); while read() == 0 { let c = b; b = box(2); } return *b;"), ""},
	{main("let r: &i64; let x = 1; r = &x; return *r;"), ""},
	{main("let b = box(1); let c = b; let r = &mut b; return *c;"), "use"},
	// Calls
	{main("let x = 1; let r = f(&x); x = 2; return *r;") + "fn f<'a>(x: &'a i64) -> &'a i64 { return x; }", "break; "},
	{main("let x = 1; let s = f(&x); let r = *s; x = 2; return r;") + "fn f<'a>(x: &'a i64) -> &'a i64 { return x; }", "; "},
	{main("let x = 1; let y = 2; let r = f(&x, &y); y = 3; return *r;") + "fn f<'a>(x: &'a i64, y: &i64) -> &'a i64 { return x; }", "; "},
	{main("let x = 1; let y = 2; let r = f(&x, &y); y = 3; return *r;") + "fn f<'a, 'b: 'a>(x: &'a i64, y: &'b i64) -> &'a i64 { return x; }", "break; "},
	{main("return 0;") + "fn f<'a>() -> &'a i64 { let x = 1; return &x; }", "; break"},
	{main("return 0;") + "fn f<'a, 'b>(x: &'a mut &'b i64, y: &'a i64) -> i64 { *x = y; return 0; }", "; end"},
	{main("return 0;") + "fn f(x: &mut i64) -> i64 { let y = &mut *x; *x = 1; *y = 2; return 3; } fn g(b: Box<i64>) -> Box<i64> { let c = b; return b; }", "; break; use"},
}

// P18.1, P18.2: programs: which rules are broken in the least rows of which function; whether there are rows in which none is; the first function of which there are none.
func TestPrograms(t *testing.T) {
	for _, x := range whats {
		u := lowered(t, x.text)
		wants := strings.Split(x.rules, "; ")
		first := -1
		var c api.Cert
		for fn, want := range wants {
			c.Fns = append(c.Fns, leastOf(t, u, fn))
			got := map[string]bool{}
			for _, b := range brokenOf(t, u, fn, c.Fns[fn]) {
				got[names[b.Rule]] = true
			}
			if len(got) > 1 || want != "" && !got[want] || want == "" && len(got) > 0 {
				t.Errorf("%s: %v; want %q", x.text, got, want)
			}
			mustKeep(t, u, fn, want == "")
			if want != "" && first < 0 {
				first = fn
			}
		}
		mustKeepAll(t, u, first)
		b, kept, e := rules.Unit(u, c)
		if kept != (first < 0) || e != api.OK || b.Fn != max(first, 0) || kept != (b == api.Broken{}) || !kept && names[b.Rule] != wants[first] {
			t.Errorf("%s: Unit: %v, %v, %v", x.text, b, kept, e)
		}
	}
}

// flowing is a unit whose graph 1 has a lifetime (region 0), two regions of a local, one of a Borrow, and what is live, what flows between them.
func flowing() api.Unit {
	return unitOf(graphOf(1, 1, "&'0 i64; &'0 i64; & &i64; Box<&'0 i64>", "_2 = & _1; _3 = box copy _2.*; _0 = copy _3.*; return"))
}

// P18.1: of live locals, of what flows: the least rows break nothing; what is wanting in others.
func TestLiveAndFlow(t *testing.T) {
	u := flowing()
	mustMay(t, u)
	const all, moves = "0 1 2 3 4", "0 1 2; ; 0; 0 1; 0 1"
	tell := func(rows, ranges, want string) {
		t.Helper()
		mustTell(t, u, 1, certOf(t, u, 1, rows, ranges, moves), want)
	}
	tell(all+"; 1; "+all+"; 1", "1", "")
	mustTell(t, u, 1, empty(t, u, 1), "live 0 0, live 0 2, live 0 3, live 1 1, live 2 1, own 0 0, moved 0 0, moved 2 0, moved 3 0, moved 4 0")
	// a region has what is live, be it in one local's type or in several, once
	tell("1 2 3 4; 1; "+all+"; 1", "1", "live 0 0, flow 1 0, own 0 0")
	tell("0 1 4; 1; "+all+"; 1", "1", "live 0 2, live 0 3, flow 1 2, own 0 2")
	tell(all+"; ; "+all+"; 1", "1", "live 1 1")
	tell(all+"; ; 0 2 3 4; 1", "1", "live 1 1, live 2 1, flow 2 1")
	// constraints are 3:1, 0:2, 2:0: the first bit that is wanting, of each
	tell(all+"; 1 3; "+all+"; 1", "1", "flow 0 3")
	tell(all+"; 0 1 2 3 4; "+all+"; ", "", "flow 0 0")
	tell(all+"; 1; 1 2 3; 1", "1", "flow 2 0")
	tell(all+"; 1; 0 1 2 3; 1", "1", "flow 2 4")
	tell("0 1 2 4; 1 2; 0 1 3; 1", "1", "live 0 3, flow 0 2, flow 1 3, flow 2 2, own 0 3")
	// more than must be breaks nothing of it; where the Borrow's row has more its loan lasts
	tell(all+"; 1 2; "+all+"; 1 2", "1 2", "")
	tell(all+"; 1 2; "+all+"; 1 2", "1", "range 0 2")
	tell(all+"; 1; "+all+"; "+all, "1 2 3", "break 0 3")
	mustKeep(t, u, 1, true)
	mustKeepAll(t, u, 0) // _0 of main has no value
}

// P18.1: of lifetimes: each has all points and its own end, another one's end only by the signature.
func TestOwnAndEnd(t *testing.T) {
	u := unitOf(outlives(graphOf(3, 2, "&'0 i64; &'1 i64; &'2 i64", "_0 = copy _1; return"), "1:0"))
	mustMay(t, u)
	for rows, want := range map[string]string{
		"0 1 2; 0 1 2 3; 0 1 4":       "",
		"0 2; 1 3 4; 2 3 4":           "live 0 1, live 1 0, flow 0 0, own 0 1, own 1 0, own 2 0, end 1 4, end 2 2, end 2 3",
		"0 1; 0 1 2; 0 1 2 3 4":       "own 0 2, own 1 3, end 2 2, end 2 3",
		"0 1 2 3 4; 0 1 2 3 4; 0 1 4": "end 0 3, end 0 4, end 1 4",
		"0 1 2; 0 1 3; 0 1 2 4":       "flow 0 2, end 2 2",
		"0 1 2; 0 1 2 3; 1":           "own 2 0",
		"0 1 2; 0 1 2 3; 0 4":         "own 2 1",
		"0 1 2; 0 1 2 3; 0 1":         "own 2 4",
		"; ; ":                        "live 0 1, live 1 0, own 0 0, own 1 0, own 2 0",
	} {
		mustTell(t, u, 1, certOf(t, u, 1, rows, "", "0; ; "), want)
	}
	mustKeep(t, u, 1, true)
	u.Fns[1].Points[0] = pointOf("_0 = copy _2", 0)
	mustTell(t, u, 1, leastOf(t, u, 1), "end 2 2")
	mustKeep(t, u, 1, false)
	u.Fns[1] = outlives(graphOf(3, 2, "&'0 i64; &'1 i64; &'2 i64", "_0 = copy _2; return"), "2:0")
	mustKeep(t, u, 1, true)
	// what may never be answered must keep its end too: none does
	u.Fns[1] = graphOf(3, 2, "&'0 i64; &'1 i64; &'2 i64", "goto -> 0; _0 = copy _2; return")
	mustKeep(t, u, 1, false)
}

// P18.1: where a loan must be in force by rule 5, of all loans, at all points; only what these ranges say: not what would follow, were they more.
func TestRange(t *testing.T) {
	u := unitOf(graphOf(1, 0, "&'0 i64; i64; &i64; Box<i64>; bool", "_2 = & _3.* -> 5; return; _2 = & _1 -> 4; goto -> 1; if copy _4 -> 3 else 1; if copy _4 -> 4 else 2; _3 = box 1 -> 6; if true -> 3 else 3"))
	mustMay(t, u)
	tell := func(first, second string, ranges, want string) {
		t.Helper()
		c := whole(t, u, 1)
		s := certOf(t, u, 1, "; ; "+first+"; "+second, ranges, "")
		c.Rows, c.Ranges = s.Rows, s.Ranges
		mustBreakSo(t, u, 1, c, api.RuleRange, want)
	}
	const all = "0 1 2 3 4 5 6 7"
	tell(all, all, "; ", "range 0 5, range 1 4")
	tell(all, all, "5; ", "range 0 2, range 0 4, range 1 4")
	tell(all, all, "4; 1 3 4", "range 0 1, range 0 3, range 0 5")
	tell(all, all, "1 2 3 4 5; 1 3 4", "")
	tell(all, all, all+"; 4", "range 1 1, range 1 3")
	tell(all, all, "0; 0 4", "range 0 5, range 1 1, range 1 3, range 1 5")
	// a row that has it not, an end of a lifetime
	tell("0 1 2 3 5 6 7 8", "", "2 5; ", "")
	tell("0 1 2 3 5 6 7 8", "8", "2 4 5; 2", "range 0 1, range 0 3")
	tell("1", "1", "4; 4", "range 0 1, range 1 1")
	// where it is killed: it is not behind that; and where a Branch has but one successor: once
	tell(all, all, "1 2 3 4 5 6; 1 3 4 6", "")
	tell(all, all, "1 2 4 5 7; 1 4 7", "range 0 3, range 1 3")
	u.Fns[1].Points[6] = pointOf("dead _1 -> 0", 6)
	tell(all, all, "1 2 3 4 5 6; 1 3 4 6", "range 0 0")
	// at its own point it is killed only as it comes round to it
	u.Fns[1].Points[0] = pointOf("_2 = & _2.* -> 5", 0)
	mustMay(t, u)
	tell(all, all, "0; ", "range 0 5, range 1 4")
}

// mustBreakSo asks what is broken of one rule.
func mustBreakSo(t *testing.T, u api.Unit, fn int, c api.FnCert, r api.Rule, want string) {
	t.Helper()
	l, e := rules.Rule(u, fn, c, r)
	if e != api.OK || said(l...) != want {
		t.Fatalf("%s: %s: Rule %d: %.400s, %v; want %.400s", textOf(u, fn), written(c), r, said(l...), e, want)
	}
	mustTell(t, u, fn, c, said(brokenOf(t, u, fn, c)...))
}

// P18.1: which paths may be without a value where: at the start, behind each point, whoever comes there; what is used there.
func TestMovedAndUse(t *testing.T) {
	u := unitOf(graphOf(0, 1, "i64; #0; Box<i64>", "_2 = move _1.1; if true -> 0 else 2; _1.1 = move _2; _0 = copy _1.0; return; drop _2 -> 4"))
	mustMay(t, u)
	for moves, want := range map[string]string{ // of _0, _1, _1.0, _1.1, _2
		"; ; ; ; ":                            "moved 0 0, moved 3 1, moved 4 0, moved 4 3, moved 4 4",
		"0 1 2 3; ; ; 0 1 2; 0 3 4":           "use 3 0",
		"0 1 2 3; ; ; 1; 0 3 4":               "moved 3 0, moved 3 2",
		"0 1 2 3; ; ; 0 2; 0 3 4":             "moved 3 1, use 3 0",
		"0 1 2; ; ; 0 1 2; 0 3":               "moved 0 3, moved 4 4, use 3 0",
		"0 1 2 3 4; ; ; 0 1 2; 0 3 4":         "use 3 0, use 0 4",
		"0 1 2 3; 5; ; 0 1 2; 0 3 4":          "moved 1 4, use 3 0",
		"0 1 2 3; 0 1 2 3 4; ; 0 1 2; 0 3 4":  "use 1 0, use 3 0, use 1 2, use 1 3",
		"0 1 2 3; ; 0 1 2 3 4; 0 1 2; 0 3 4":  "use 3 0, use 2 3",
		"0 1 2 3; ; ; 0 1 2; 0 1 2 3 4 5":     "use 3 0, use 4 2",
		"0 1 2 3 5; ; ; 0 1 2 5; 0 2 3 4 5":   "moved 0 4, moved 3 4, use 3 0, use 4 2",
		"0 1 2 3; ; ; 0 1 2 4; 0 2 3 4":       "use 3 0, use 4 2",
		"0 1 2 3 4 5; 4 5; 4 5; 0 1 2 4 5; 0": "moved 4 3, moved 4 4, use 3 0, use 0 4",
	} {
		mustTell(t, u, 1, certOf(t, u, 1, "", "", moves), want)
	}
	mustTell(t, u, 1, leastOf(t, u, 1), "use 3 0")
	mustKeep(t, u, 1, false)
	u.Fns[1].Points[1] = pointOf("if true -> 2 else 5", 1)
	mustTell(t, u, 1, leastOf(t, u, 1), "use 0 4") // the point 5 goes to 4
	u.Fns[1].Points[5] = pointOf("drop _2 -> 3", 5)
	mustTell(t, u, 1, leastOf(t, u, 1), "")
	mustKeep(t, u, 1, true)
}

// P18.1, P18.2: a point that uses what its own operands have moved is refused, whatever the rows are; each path once, if that has no value anyway; all of them are told.
func TestUseAgain(t *testing.T) {
	u := unitOf(graphOf(0, 2, "i64; Box<i64>; #0", "_0 = f2(move _1, move _1); return; _0 = f3(move _2, move _2.1); _2.1 = box 1; return"), graphOf(0, 2, "i64; Box<i64>; Box<i64>", "return"), graphOf(0, 2, "i64; #0; Box<i64>", "return"))
	mustMay(t, u)
	mustTell(t, u, 1, certOf(t, u, 1, "", "", "0; 1; 3 4; 3"), "use 1 0, use 2 2, use 3 2, use 2 3")
	mustTell(t, u, 1, certOf(t, u, 1, "", "", "0; 0 1; 3 4; 3"), "use 1 0, use 2 2, use 3 2, use 2 3")
	mustTell(t, u, 1, certOf(t, u, 1, "", "", "0; 0 1; 3 4; 2 3"), "use 1 0, use 2 2, use 3 2, use 2 3")
	mustKeep(t, u, 1, false)
	u.Fns[1].Points[0] = pointOf("_0 = f2(move _1, move _2.1)", 0)
	mustKeep(t, u, 1, false) // nobody comes to 2, but it is no point's right
	u.Fns[1].Points[2] = pointOf("_0 = 1", 2)
	mustKeep(t, u, 1, true)
}

// P18.1: of what a point uses again all paths are told: those in which the place lies, those that lie in it; of what it assigns those in which that lies; of no other.
func TestAllThatIsUsedAgain(t *testing.T) {
	called := []api.Graph{graphOf(0, 2, "i64; Box<#0>; i64", "return"), graphOf(0, 2, "i64; Box<i64>; #0", "return"), graphOf(0, 2, "i64; Box<i64>; i64", "return"), graphOf(1, 1, "i64; Box<&'0 mut i64>", "return"), graphOf(1, 2, "i64; #0; &'0 mut i64", "return"), graphOf(0, 4, "i64; i64; Box<i64>; i64; Box<i64>", "return")}
	for _, x := range []struct{ locals, points, want string }{
		{"i64; Box<i64>", "_1.* = f4(move _1, copy _1.*)", "use 1 0, use 2 0"},
		// all that lies in what was moved, as far as it is used: _0 _1 _1.* _1.*.0 _1.*.1
		{"i64; Box<#0>", "_0 = f2(move _1, copy _1.*.0); _0 = copy _1.*.0; drop _1.*.1", "use 1 0, use 2 0, use 3 0"},
		{"i64; Box<#0>", "_1.*.0 = f2(move _1, 4); drop _1.*.1", "use 1 0, use 2 0"},
		// a part was moved: _0 _1 _1.0 _1.1 _1.1.*; the whole uses it, its other parts do not
		{"i64; #0; Box<i64>", "_0 = f3(move _1.1, move _1); _0 = copy _1.1.*; _0 = copy _1.0", "use 3 0, use 4 0"},
		{"i64; #0", "_0 = f4(move _1.1, copy _1.0)", ""},
		{"i64; #0", "_1.0 = f4(move _1.1, 2)", ""},
		// what is assigned: all that it lies in, but itself: _0 _1 _1.1 _1.1.* _1.1.*.1
		{"i64; #1", "_1.1.*.1 = box move _1", "use 1 0, use 2 0, use 3 0"},
		{"i64; #1; Box<#1>", "_1.1 = box move _1", "use 1 0"},
		{"i64; #1; Box<#1>", "_2 = box move _1", ""},
		// it goes through a reference: as far as there: _0 _1 _1.*
		{"i64; Box<&mut i64>", "_1.*.* = f5(move _1)", "use 1 0, use 2 0"},
		{"i64; #0; &mut i64", "_2.* = f6(move _1, move _2)", "use 2 0"},
		// several were moved, each one is told once, what is used ahead of it is not: _0 _1 _1.* _2 _2.* _3
		{"i64; Box<i64>; Box<i64>; i64", "_0 = f7(copy _1.*, move _1, copy _2.*, move _2)", ""},
		{"i64; Box<i64>; Box<i64>; i64", "_1.* = f7(copy _3, move _2, copy _2.*, move _2)", "use 3 0, use 4 0"},
		{"i64; Box<i64>; Box<i64>; i64", "_2.* = f7(copy _3, move _2, copy _1.*, move _1)", "use 3 0"},
		{"i64; Box<i64>; Box<i64>; i64", "_2.* = f7(copy _3, move _2, copy _2.*, move _1); _0 = copy _1.*", "use 3 0, use 4 0"},
		{"i64; Box<i64>; Box<i64>; i64", "_2.* = f7(copy _2.*, move _1, copy _1.*, move _2)", "use 1 0, use 2 0, use 3 0"},
	} {
		u := unitOf(append([]api.Graph{graphOf(0, 0, x.locals, x.points+"; return")}, called...)...)
		mustMay(t, u)
		none, all := empty(t, u, 1), whole(t, u, 1)
		all.Rows, all.Ranges = none.Rows, none.Ranges
		if got := usedAt(t, u, none, 0); got != x.want {
			t.Errorf("%s: %s; want %s", x.points, got, x.want)
		}
		uses, e := move.Uses(u, 1, 0)
		want := strings.TrimSuffix(strings.Join(strings.Fields(fmt.Sprint(uses)), " 0, use "), "]")
		if got := usedAt(t, u, all, 0); e != api.OK || got != "use "+want[1:]+" 0" {
			t.Errorf("%s: %s; want %s", x.points, got, want)
		}
	}
}

// usedAt is what is broken of RuleUse at a point of the graph 1.
func usedAt(t *testing.T, u api.Unit, c api.FnCert, q int) string {
	t.Helper()
	l, e := rules.Rule(u, 1, c, api.RuleUse)
	if e != api.OK {
		t.Fatal(e)
	}
	return said(slices.DeleteFunc(l, func(b api.Broken) bool { return b.At != q })...)
}

// P18.1: which loans which point breaks: by points, of one point by loans, each once; what is not in force is not broken.
func TestBreak(t *testing.T) {
	u := unitOf(graphOf(1, 0, "&'0 i64; i64; &i64; Box<i64>; &mut i64; i64", "_2 = & _1; _2 = & _3.*; _4 = &mut _5; goto; _3 = box copy _5; _5 = copy _1 + copy _5; drop _3; return"))
	mustMay(t, u)
	for ranges, want := range map[string]string{
		"0 1 2 3 4 5 6 7; 0 1 2 3 4 5 6 7; 0 1 2 3 4 5 6 7": "break 2 2, break 1 4, break 2 4, break 2 5, break 1 6, break 0 7, break 1 7, break 2 7",
		"; ; ":                              "",
		"0 1 2 3 4 5 6; 0 1 2 3 5; 0 1 3 6": "",
		"7; ; 7":                            "break 0 7, break 2 7",
		"7; 6; 5":                           "break 2 5, break 1 6, break 0 7",
		"; 4; 4":                            "break 1 4, break 2 4",
		"; ; 2":                             "break 2 2",
	} {
		c := whole(t, u, 1)
		c.Ranges = certOf(t, u, 1, "", ranges, "").Ranges
		mustBreakSo(t, u, 1, c, api.RuleBreak, want)
	}
}

// P18.1: accesses that are alike but for a step, for how many steps there are, for how far they go, for whether they write, break other loans.
func TestBreakOfLikes(t *testing.T) {
	u := unitOf(graphOf(0, 0, "i64; #3; &mut i64; #2; &mut bool; #3; Box<i64>; &mut i64; Box<i64>", "_2 = &mut _1.1; _2 = &mut _1.0.0; _4 = &mut _1.0.1; _1.1 = 4; _1.0 = move _3; _3 = move _1.0; _5 = move _1; _1 = move _5; _1.0.0 = 3; _1.0.1 = true; "+
		"_7 = &mut _6.*; print copy _6.*; drop _6; _6.* = 1; _8 = move _6; _7 = &mut _7.*; _7 = move _7; _7.* = 2; goto -> 0"))
	mustMay(t, u)
	c := whole(t, u, 1)
	mustBreakSo(t, u, 1, c, api.RuleBreak, "break 0 0, break 1 1, break 2 2, break 0 3, break 1 4, break 2 4, break 1 5, break 2 5, break 0 6, break 1 6, break 2 6, break 0 7, break 1 7, break 2 7, break 1 8, break 2 9, "+
		"break 3 10, break 3 11, break 3 12, break 3 13, break 3 14, break 4 15, break 4 16, break 4 17")
	for k := range c.Ranges {
		c.Ranges[k].Words[0] &= 1<<7 | 1<<5 | 1<<14
	}
	mustBreakSo(t, u, 1, c, api.RuleBreak, "break 1 5, break 2 5, break 0 7, break 1 7, break 2 7, break 3 14")
}

// P18.1: rules are told in their order, whatever is broken of them; in the rules of rows by what it is first, in those of points by the point first.
func TestOrder(t *testing.T) {
	u := unitOf(outlives(graphOf(2, 2, "&'0 i64; &'1 mut i64; Box<i64>; &i64; Box<i64>; i64", "_5 = 1; _3 = & _1.*; _0 = & _3.*; _1.* = copy _3.*; _4 = move _2; _4 = move _2; return"), "1:0"))
	mustMay(t, u)
	mustTell(t, u, 1, empty(t, u, 1), "live 0 3, live 0 4, live 0 5, live 0 6, live 1 0, live 1 1, live 1 2, live 1 3, live 2 2, live 2 3, own 0 0, own 1 0, moved 0 0, moved 2 5, moved 2 6, moved 3 0, moved 4 0, moved 5 0")
	mustTell(t, u, 1, whole(t, u, 1), "end 0 8, break 0 3, use 1 1, use 3 2, use 1 3, use 3 3, use 2 4, use 2 5, use 0 6")
	c := leastOf(t, u, 1)
	mustTell(t, u, 1, c, "break 0 3, use 2 5")
	// one bit less, here and there
	for bit, want := range map[string]string{
		"rows 2 3":   "live 2 3, flow 3 3, break 0 3, use 2 5",
		"rows 4 3":   "flow 2 3, break 0 3, use 2 5",
		"rows 0 7":   "own 0 7, break 0 3, use 2 5",
		"ranges 0 3": "range 0 3, use 2 5",
		"ranges 0 2": "range 0 2, break 0 3, use 2 5",
		"moves 2 5":  "moved 2 5, break 0 3",
	} {
		d := own(c)
		var kind string
		var what, at int
		fmt.Sscan(bit, &kind, &what, &at)
		row := map[string][]api.Row{"rows": d.Rows, "ranges": d.Ranges, "moves": d.Moves}[kind][what]
		row.Words[0] &^= 1 << at
		mustTell(t, u, 1, d, want)
	}
}

// P18.2: what goes round and round, and comes on from there by one way while it has come by the other one already.
func TestKeepsGoesRound(t *testing.T) {
	u := unitOf(graphOf(0, 1, "i64; Box<i64>", "_0 = 1; if true -> 4 else 2; drop _1; if true -> 1 else 2; goto; return"))
	mustMay(t, u)
	mustTell(t, u, 1, certOf(t, u, 1, "", "", "0; 1 2 3 4 5"), "")
	mustKeep(t, u, 1, true)
	u.Fns[1] = graphOf(0, 1, "i64; Box<i64>", "_0 = 1; if true -> 4 else 2; drop _1; if true -> 1 else 2; goto; print copy _1.* -> 0")
	mustKeep(t, u, 1, false)
	u.Fns[1].Points[2] = pointOf("_1.* = 2", 2)
	mustKeep(t, u, 1, true)
}
