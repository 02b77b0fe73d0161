package lower_test

import "testing"

// The chapter's example.
func TestExample(t *testing.T) {
	mustLower(t, "let x = 1; if x < 2 && true { print(x); } return x;", "i64 x; i64; bool; bool; i64; i64",
		"_1 = 1; _2 = copy _1; _3 = copy _2 < 2; if copy _3 -> 4 else 6; _4 = true; goto -> 7; _4 = false; if copy _4 -> 8 else 10; "+
			"_5 = copy _1; print copy _5; _6 = copy _1; _0 = copy _6; return; dead _1; return")
}

// P11.1: lets, assignments, returns, prints, calls.
func TestStatements(t *testing.T) {
	for _, x := range []struct{ statements, locals, points string }{
		{"let x: i64;", "i64 x", "dead _1; return"},
		{"let x: i64 = 1;", "i64 x", "_1 = 1; dead _1; return"},
		{"let x: Box<i64>; x = box(2);", "Box<i64> x; Box<i64>", "_2 = box 2; _1 = move _2; dead _1; return"},
		{"let x = 1; let x = x == 1; let x = !x;", "i64 x; i64; bool; bool x; bool; bool; bool x",
			"_1 = 1; _2 = copy _1; _3 = copy _2 == 1; _4 = copy _3; _5 = copy _4; _6 = ! copy _5; _7 = copy _6; dead _7; dead _4; dead _1; return"},
		{"let p: P; p.a = 1; p.b = box(p.a); *p.b = p.a + 1;", "#0 p; i64; Box<i64>; i64; i64",
			"_1.0 = 1; _2 = copy _1.0; _3 = box copy _2; _1.1 = move _3; _4 = copy _1.0; _5 = copy _4 + 1; _1.1.* = copy _5; dead _1; return"},
		{"return 1; print(2);", "", "_0 = 1; return; print 2; return"},
		{"let x = 1; return x; let y = 2;", "i64 x; i64; i64 y", "_1 = 1; _2 = copy _1; _0 = copy _2; return; _3 = 2; dead _3; dead _1; return"},
		{"one(); two(1, true); same(N { n: 1, t: true }); pack(P { a: 1, b: box(1) });", "i64; Box<i64>; #1; #1; Box<i64>; #0; #2",
			"_1 = f0(); _2 = f1(1, true); drop _2; _3 = #1(1, true); _4 = f4(move _3); _5 = box 1; _6 = #0(1, move _5); _7 = f3(move _6); drop _7; return"},
		{"let p: P; let q: P; ref(&p, &mut q);", "#0 p; #0 q; &#0; &mut #0; &#0", "_3 = & _1; _4 = &mut _2; _5 = f2(copy _3, move _4); dead _2; dead _1; return"},
		{"{ } { { } }", "", "return"},
		{"let x = 1; { let y = 2; { let z = 3; } let y = 4; } let z = 5;", "i64 x; i64 y; i64 z; i64 y; i64 z",
			"_1 = 1; _2 = 2; _3 = 3; dead _3; _4 = 4; dead _4; dead _2; _5 = 5; dead _5; dead _1; return"},
		{"let x = 1; { let x = x; print(x); } print(x);", "i64 x; i64; i64 x; i64; i64",
			"_1 = 1; _2 = copy _1; _3 = copy _2; _4 = copy _3; print copy _4; dead _3; _5 = copy _1; print copy _5; dead _1; return"},
	} {
		mustLower(t, x.statements, x.locals, x.points)
	}
}

// P11.1: an NIf with and without an else, with blocks that are empty, one behind the other's else.
func TestIf(t *testing.T) {
	for _, x := range []struct{ statements, locals, points string }{
		{"if true { }", "", "if true -> 1 else 1; return"},
		{"if true { } else { }", "", "if true -> 1 else 2; goto -> 2; return"},
		{"if true { print(1); } print(2);", "", "if true -> 1 else 2; print 1; print 2; return"},
		{"if true { print(1); } else { print(2); } print(3);", "", "if true -> 1 else 3; print 1; goto -> 4; print 2; print 3; return"},
		{"if true { } else { print(2); }", "", "if true -> 1 else 2; goto -> 3; print 2; return"},
		{"if true { let x = 1; } else { let y = 2; }", "i64 x; i64 y", "if true -> 1 else 4; _1 = 1; dead _1; goto -> 6; _2 = 2; dead _2; return"},
		{"if true { print(1); } else if false { print(2); }", "", "if true -> 1 else 3; print 1; goto -> 5; if false -> 4 else 5; print 2; return"},
		{"if true { print(1); } else if false { print(2); } else if true { print(3); } else { print(4); } print(5);", "",
			"if true -> 1 else 3; print 1; goto -> 10; if false -> 4 else 6; print 2; goto -> 10; if true -> 7 else 9; print 3; goto -> 10; print 4; print 5; return"},
		{"if 1 < 2 { if true { print(1); } } else { if false { } else { } }", "bool", "_1 = 1 < 2; if copy _1 -> 2 else 5; if true -> 3 else 4; print 1; goto -> 7; if false -> 6 else 7; goto -> 7; return"},
	} {
		mustLower(t, x.statements, x.locals, x.points)
	}
}

// P11.1: loops, and what leaves them: the variables of all blocks out of which one goes, the last one first.
func TestLoops(t *testing.T) {
	for _, x := range []struct{ statements, locals, points string }{
		{"loop { }", "", "goto -> 0; return"},
		{"loop { break; }", "", "goto -> 2; goto -> 0; return"},
		{"loop { continue; }", "", "goto -> 0; goto -> 0; return"},
		{"while true { }", "", "if true -> 1 else 2; goto -> 0; return"},
		{"while read() < 1 { print(1); }", "i64; bool", "_1 = read; _2 = copy _1 < 1; if copy _2 -> 3 else 5; print 1; goto -> 0; return"},
		{"let x = 1; while x < 3 { x = x + 1; continue; } print(x);", "i64 x; i64; bool; i64; i64; i64",
			"_1 = 1; _2 = copy _1; _3 = copy _2 < 3; if copy _3 -> 4 else 9; _4 = copy _1; _5 = copy _4 + 1; _1 = copy _5; goto -> 1; goto -> 1; _6 = copy _1; print copy _6; dead _1; return"},
		{"while true && true { break; }", "bool", "if true -> 1 else 3; _1 = true; goto -> 4; _1 = false; if copy _1 -> 5 else 7; goto -> 7; goto -> 0; return"},
		{"let b = box(1); loop { let c = b; if true { break; } b = c; } return 0;", "Box<i64>; Box<i64> b; Box<i64>; Box<i64> c; Box<i64>",
			"_1 = box 1; _2 = move _1; _3 = move _2; _4 = move _3; if true -> 5 else 7; dead _4; goto -> 11; _5 = move _4; _2 = move _5; dead _4; goto -> 2; _0 = 0; return; dead _2; return"},
		{"let a = 1; loop { let b = 2; { let c = 3; if true { let d = 4; break; } let e = 5; continue; } let f = 6; }", "i64 a; i64 b; i64 c; i64 d; i64 e; i64 f",
			"_1 = 1; _2 = 2; _3 = 3; if true -> 4 else 10; _4 = 4; dead _4; dead _3; dead _2; goto -> 21; dead _4; " +
				"_5 = 5; dead _5; dead _3; dead _2; goto -> 1; dead _5; dead _3; _6 = 6; dead _6; dead _2; goto -> 1; dead _1; return"},
		{"loop { let a = 1; while true { let b = 2; break; } continue; } print(1);", "i64 a; i64 b",
			"_1 = 1; if true -> 2 else 7; _2 = 2; dead _2; goto -> 7; dead _2; goto -> 1; dead _1; goto -> 0; dead _1; goto -> 0; print 1; return"},
		{"loop { let a = 1; break; let b = 2; break; }", "i64 a; i64 b",
			"_1 = 1; dead _1; goto -> 10; _2 = 2; dead _2; dead _1; goto -> 10; dead _2; dead _1; goto -> 0; return"},
	} {
		mustLower(t, x.statements, x.locals, x.points)
	}
}

// P11.1: what does not come to its end still has its last points: nobody goes there.
func TestBehindWhatLeaves(t *testing.T) {
	mustLower(t, "while true { let x = 1; return x; break; continue; }", "i64 x; i64",
		"if true -> 1 else 11; _1 = 1; _2 = copy _1; _0 = copy _2; return; dead _1; goto -> 11; dead _1; goto -> 0; dead _1; goto -> 0; return")
}
