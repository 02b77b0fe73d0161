package move_test

import (
	"slices"
	"testing"

	"loanword/api"
	"loanword/graph"
	"loanword/move"
	"loanword/place"
)

// doesOf, usesOf, behindOf and belowOf are what the calls answer.
func doesOf(t *testing.T, u api.Unit, fn, q int) (gone, has []int) {
	t.Helper()
	gone, has, e := move.Does(u, fn, q)
	if e != api.OK {
		t.Fatalf("%s: Does(%d): %v", textOf(u, fn), q, e)
	}
	return gone, has
}

func usesOf(t *testing.T, u api.Unit, fn, q int) []int {
	t.Helper()
	l, e := move.Uses(u, fn, q)
	if e != api.OK {
		t.Fatalf("%s: Uses(%d): %v", textOf(u, fn), q, e)
	}
	return l
}

func behindOf(t *testing.T, u api.Unit, fn, q int, gone []int) []int {
	t.Helper()
	l, e := move.Behind(u, fn, q, gone)
	if e != api.OK {
		t.Fatalf("%s: Behind(%d, %v): %v", textOf(u, fn), q, gone, e)
	}
	return l
}

func belowOf(t *testing.T, u api.Unit, fn, path int) []int {
	t.Helper()
	l, e := move.Below(u, fn, path)
	if e != api.OK {
		t.Fatalf("%s: Below(%d): %v", textOf(u, fn), path, e)
	}
	return l
}

// areIn tells whether all of l are in m.
func areIn(l, m []int) bool {
	return !slices.ContainsFunc(l, func(k int) bool { return !slices.Contains(m, k) })
}

// together are the numbers of two lists, rising, each once.
func together(l, m []int) []int {
	all := slices.Concat(l, m)
	slices.Sort(all)
	return slices.Compact(all)
}

// bitsOf are the numbers of the bits of a set.
func bitsOf(set int) []int {
	var l []int
	for k := 0; set>>k > 0; k++ {
		if set>>k&1 == 1 {
			l = append(l, k)
		}
	}
	return l
}

// few is a graph of eight paths, with points of all kinds.
func few() api.Unit {
	return unitOf(graphOf(1, 1, "i64; #1; #0; &'0 mut #1; bool", "_1.0 = move _2; _1 = #1(move _2, move _1.1, true); _3.*.0 = move _2; drop _1.1; dead _1; _2 = move _1.0; _4 = copy _3.*.2; if copy _4; _1.1 = box move _1; "+
		"_0 = 1 + 2; _0 = - copy _0; print copy _0; _0 = read; _2 = f2(move _1, move _3); _1 = f3(move _1.0, move _1.1); dead _2; drop _2; _3.* = f3(move _1.0, move _1.1); _1 = move _1; goto; return"),
		graphOf(1, 2, "#0; #1; &'0 mut #1", "return"), graphOf(0, 2, "#1; #0; Box<#1>", "return"))
}

// P17.3, P17.4: of all lists of paths of a graph: what is behind each point; of more it is no less, and of two together it is that of the one and that of the other.
func TestAllLists(t *testing.T) {
	u := few()
	mustMay(t, u)
	mustPaths(t, u, 1, "_0 _1 _1.0 _1.1 _2 _3 _4")
	x := ask(t, u, 1)
	for q := range x.texts {
		deeds := x.deeds(q)
		var all [][]int
		for set := range 1 << 7 {
			gone := bitsOf(set)
			all = append(all, mustBehind(t, u, 1, q, gone, x.behind(deeds, gone)...))
		}
		for a := range all {
			for b := range all {
				if !slices.Equal(all[a|b], together(all[a], all[b])) {
					t.Fatalf("%s: %v, %v: %v, %v; together %v", x.texts[q], bitsOf(a), bitsOf(b), all[a], all[b], all[a|b])
				}
				if a&b == a && !areIn(all[a], all[b]) {
					t.Fatalf("%s: %v, %v: %v, %v", x.texts[q], bitsOf(a), bitsOf(b), all[a], all[b])
				}
			}
		}
	}
}

// mustFollow asks what follows of all points of a graph.
func mustFollow(t *testing.T, u api.Unit, fn int) {
	t.Helper()
	for q, p := range u.Fns[fn].Points {
		gone, has := doesOf(t, u, fn, q)
		for _, k := range has {
			if slices.Contains(gone, k) || !areIn(belowOf(t, u, fn, k), has) {
				t.Fatalf("%s: Does(%d): %v, %v: %d", textOf(u, fn), q, gone, has, k)
			}
		}
		for _, k := range gone {
			_, again, _ := move.Again(u, fn, q)
			if below := belowOf(t, u, fn, k); !areIn(below, together(gone, has)) || !again && !areIn(below, gone) {
				t.Fatalf("%s: Does(%d): %v, %v: %d", textOf(u, fn), q, gone, has, k)
			}
		}
		uses := usesOf(t, u, fn, q)
		if p.Op != api.Drop && p.Op != api.Dead && !areIn(gone, uses) {
			t.Fatalf("%s: %d uses %v, and takes %v", textOf(u, fn), q, uses, gone)
		}
		mustUsePrefixes(t, u, fn, q, uses)
	}
}

// mustUsePrefixes asks of paths that the prefixes of each are among them.
func mustUsePrefixes(t *testing.T, u api.Unit, fn, q int, uses []int) {
	t.Helper()
	paths, _ := move.Paths(u, fn)
	for _, k := range uses {
		for _, p := range place.Prefixes(paths[k]) {
			if n, e := move.Path(u, fn, p); e != api.OK || !slices.Contains(uses, n) {
				t.Fatalf("%s: %d uses %v: %s", textOf(u, fn), q, uses, place.Text(p))
			}
		}
	}
}

// P17.4, P17.5: of each kind of point, of graphs by chance, of those that come of a text. (What is below a moved path is gone but where the same point assigns it: such a point uses again what it has moved.)
func TestFollows(t *testing.T) {
	for _, m := range mentions {
		mustFollow(t, scene(m.text+"; return"+behind), 1)
	}
	mustFollow(t, few(), 1)
	c := byChance(173)
	for range 15 {
		mustFollow(t, c.unit(1+c.Intn(12)), 1)
	}
	u := lowered(t, program)
	for fn := range u.Fns {
		mustFollow(t, u, fn)
	}
}

// P17.4: of lists by chance, of graphs by chance: of more it is no less, of several together it is what it is of each, together.
func TestTogetherByChance(t *testing.T) {
	c := byChance(174)
	for range 25 {
		u := c.unit(1 + c.Intn(8))
		n := len(pathsOf(t, u, 1))
		for q := range u.Fns[1].Points {
			a, b, d := c.paths(n), c.paths(n), c.paths(n)
			one := together(behindOf(t, u, 1, q, a), together(behindOf(t, u, 1, q, b), behindOf(t, u, 1, q, d)))
			all := behindOf(t, u, 1, q, together(a, together(b, d)))
			if !slices.Equal(one, all) {
				t.Fatalf("%s: %d: %v, %v, %v: %v, together %v", textOf(u, 1), q, a, b, d, one, all)
			}
		}
	}
}

// goneAhead says of each point of a graph which paths may be without a value ahead of it: the least lists that hold at the start and from each point to its successors. (Of a point where nobody comes: none.)
func goneAhead(t *testing.T, u api.Unit, fn int) [][]int {
	t.Helper()
	ahead := make([][]int, len(u.Fns[fn].Points))
	came := make([]bool, len(ahead))
	came[0] = true
	ahead[0], _ = move.Start(u, fn)
	for more := true; more; {
		more = false
		for q := range ahead {
			next, _ := graph.Next(u, fn, q)
			for _, to := range next {
				if l := together(ahead[to], behindOf(t, u, fn, q, ahead[q])); came[q] && (!came[to] || len(l) > len(ahead[to])) {
					ahead[to], came[to], more = l, true, true
				}
			}
		}
	}
	return ahead
}

// firstUse is the first point of a graph that uses what may be without a value, and the first such path; -1, if there is none.
func firstUse(t *testing.T, u api.Unit, fn int) (q int, path string) {
	t.Helper()
	for q, gone := range goneAhead(t, u, fn) {
		for _, k := range usesOf(t, u, fn, q) {
			if slices.Contains(gone, k) {
				return q, pathsOf(t, u, fn)[k]
			}
		}
	}
	return -1, ""
}

// P17.1 to P17.3: of DOC.md's example 4, and others: which point uses which path without a value.
func TestPrograms(t *testing.T) {
	for text, want := range map[string]string{
		"let b = box(1); let c = b; return *b;":                                                       "_5 = copy _2.*: _2",
		"let b = box(1); let c = b; return *c;":                                                       "",
		"let b = box(1); let c = b; b = box(2); return *b;":                                           "",
		"let b = box(1); if read() == 1 { let c = b; } return *b;":                                    "_7 = copy _2.*: _2",
		"let b = box(1); if read() == 1 { let c = b; b = box(2); } return *b;":                        "",
		"let b = box(1); if read() == 1 { let c = b; return 1; } return *b;":                          "",
		"let b = box(1); while read() == 1 { let c = b; } return 0;":                                  "_5 = move _2: _2",
		"let b = box(1); while read() == 1 { let c = b; b = box(2); } return 0;":                      "",
		"let b = box(1); while read() == 1 { let c = b; break; } return 0;":                           "",
		"let x: i64; return x;":                                                                       "_2 = copy _1: _1",
		"let x: i64; if read() == 1 { x = 1; } else { x = 2; } return x;":                             "",
		"let x: i64; if read() == 1 { x = 1; } return x;":                                             "_4 = copy _1: _1",
		"let x: i64; while read() == 1 { x = 1; } return x;":                                          "_4 = copy _1: _1",
		"let x: i64; loop { x = 1; break; } return x;":                                                "",
		"let p = P { a: 1, b: box(2) }; let b = p.b; return p.a;":                                     "",
		"let p = P { a: 1, b: box(2) }; let b = p.b; let q = p; return 0;":                            "_6 = move _3: _3.1",
		"let p = P { a: 1, b: box(2) }; let b = p.b; p.b = box(3); let q = p; return 0;":              "",
		"let p = P { a: 1, b: box(2) }; let b = p.b; return *p.b;":                                    "_6 = copy _3.1.*: _3.1",
		"let p = P { a: 1, b: box(2) }; let q = p; p.a = 1; return 0;":                                "_3.0 = 1: _3",
		"let p = P { a: 1, b: box(2) }; let q = p; p = P { a: 1, b: q.b }; return *p.b;":              "",
		"let p: P; p.a = 1; return 0;":                                                                "_1.0 = 1: _1",
		"let b = box(1); let c = b; *b = 2; return 0;":                                                "_2.* = 2: _2",
		"let b = box(P { a: 1, b: box(2) }); let p = *b; *b = P { a: 3, b: box(4) }; return *(*b).b;": "",
		"let b = box(P { a: 1, b: box(2) }); let p = *b; return (*b).a;":                              "_7 = copy _4.*.0: _4.*",
		"let x = 1; let r = &mut x; let s = r; *r = 2; return x;":                                     "_3.* = 2: _3",
		"let x = 1; let r = &mut x; let s = &mut *r; *s = 2; *r = 3; return x;":                       "",
		"let x = 1; let r = &mut x; let s = r; *s = 2; r = &mut x; *r = 3; return x;":                 "",
		"let x = 1; let r = &x; let s = r; return *r + *s;":                                           "",
		"let b = box(1); let r = &b; let c = b; return 0;":                                            "",
		"let b = box(1); let c = b; let r = &b; return 0;":                                            "_5 = & _2: _2",
		"let b = box(1); let c = b; let r = &*b; return 0;":                                           "_5 = & _2.*: _2",
		"let b = box(1); let c = b; f(b); return 0;":                                                  "_5 = move _2: _2",
		"let b = box(1); f(b); f(b); return 0;":                                                       "_5 = move _2: _2",
		"let b = box(1); f(b); b = box(2); f(b); return 0;":                                           "",
	} {
		u := lowered(t, "struct P { a: i64, b: Box<i64> } fn f(b: Box<i64>) -> i64 { return *b; } fn main() -> i64 { "+text+" }")
		got := ""
		if q, path := firstUse(t, u, u.Main); q >= 0 {
			got = ask(t, u, u.Main).texts[q] + ": " + path
		}
		if got != want {
			t.Errorf("%s: %q; want %q: %s", text, got, want, textOf(u, u.Main))
		}
		if q, _ := firstUse(t, u, 0); q >= 0 {
			t.Errorf("f: %d", q)
		}
	}
}
