package lower_test

import "testing"

// P11.1: what each expression makes: its locals and its points.
func TestExpressions(t *testing.T) {
	for _, x := range []struct{ statements, locals, points string }{
		{"", "", "return"},
		{"print(7);", "", "print 7; return"},
		{"print(9223372036854775807);", "", "print 9223372036854775807; return"},
		{"let x = true;", "bool x", "_1 = true; dead _1; return"},
		{"let x = false;", "bool x", "_1 = false; dead _1; return"},
		{"print(-1);", "i64", "_1 = - 1; print copy _1; return"},
		{"print(--1);", "i64; i64", "_1 = - 1; _2 = - copy _1; print copy _2; return"},
		{"let x = !!true;", "bool; bool; bool x", "_1 = ! true; _2 = ! copy _1; _3 = copy _2; dead _3; return"},
		{"print(1 + 2 * 3);", "i64; i64", "_1 = 2 * 3; _2 = 1 + copy _1; print copy _2; return"},
		{"print((1 - 2) - (3 / (4 % 5)));", "i64; i64; i64; i64", "_1 = 1 - 2; _2 = 4 % 5; _3 = 3 / copy _2; _4 = copy _1 - copy _3; print copy _4; return"},
		{"let x = (1 < 2) == (3 >= 4);", "bool; bool; bool; bool x", "_1 = 1 < 2; _2 = 3 >= 4; _3 = copy _1 == copy _2; _4 = copy _3; dead _4; return"},
		{"let x = 1 != 2; let y = 1 <= 2; let z = 1 > 2;", "bool; bool x; bool; bool y; bool; bool z",
			"_1 = 1 != 2; _2 = copy _1; _3 = 1 <= 2; _4 = copy _3; _5 = 1 > 2; _6 = copy _5; dead _6; dead _4; dead _2; return"},
		{"print(read() - read());", "i64; i64; i64", "_1 = read; _2 = read; _3 = copy _1 - copy _2; print copy _3; return"},
		{"let b = box(box(1));", "Box<i64>; Box<Box<i64>>; Box<Box<i64>> b", "_1 = box 1; _2 = box move _1; _3 = move _2; dead _3; return"},
		{"print(one());", "i64", "_1 = f0(); print copy _1; return"},
		{"print(one() + one());", "i64; i64; i64", "_1 = f0(); _2 = f0(); _3 = copy _1 + copy _2; print copy _3; return"},
		{"let b = two(one() + 1, !true);", "i64; i64; bool; Box<i64>; Box<i64> b", "_1 = f0(); _2 = copy _1 + 1; _3 = ! true; _4 = f1(copy _2, copy _3); _5 = move _4; dead _5; return"},
		{"print(main());", "i64", "_1 = f5(); print copy _1; return"},
	} {
		mustLower(t, x.statements, x.locals, x.points)
	}
}

// P11.1: && and ||: the second child is made at one end of the Branch alone, however they stand in one another.
func TestLazy(t *testing.T) {
	for _, x := range []struct{ statements, locals, points string }{
		{"let x = true && false;", "bool; bool x", "if true -> 1 else 3; _1 = false; goto -> 4; _1 = false; _2 = copy _1; dead _2; return"},
		{"let x = false || true;", "bool; bool x", "if false -> 1 else 3; _1 = true; goto -> 4; _1 = true; _2 = copy _1; dead _2; return"},
		{"let x = 1 < 2 || 3 < 4;", "bool; bool; bool; bool x",
			"_1 = 1 < 2; if copy _1 -> 2 else 4; _2 = true; goto -> 6; _3 = 3 < 4; _2 = copy _3; _4 = copy _2; dead _4; return"},
		{"let x = 1 < 2 && 3 < 4;", "bool; bool; bool; bool x",
			"_1 = 1 < 2; if copy _1 -> 2 else 5; _3 = 3 < 4; _2 = copy _3; goto -> 6; _2 = false; _4 = copy _2; dead _4; return"},
		{"if true && (false || true) { }", "bool; bool",
			"if true -> 1 else 7; if false -> 2 else 4; _2 = true; goto -> 5; _2 = true; _1 = copy _2; goto -> 8; _1 = false; if copy _1 -> 9 else 9; return"},
		{"if (true && false) || true { }", "bool; bool",
			"if true -> 1 else 3; _1 = false; goto -> 4; _1 = false; if copy _1 -> 5 else 7; _2 = true; goto -> 8; _2 = true; if copy _2 -> 9 else 9; return"},
	} {
		mustLower(t, x.statements, x.locals, x.points)
	}
}

// P11.1: places: what is to copy is copied, what is not is moved; fields by their numbers, whatever stands ahead of them.
func TestPlaces(t *testing.T) {
	for _, x := range []struct{ statements, locals, points string }{
		{"let x = 1; print(x);", "i64 x; i64", "_1 = 1; _2 = copy _1; print copy _2; dead _1; return"},
		{"let b = box(1); let c = b;", "Box<i64>; Box<i64> b; Box<i64>; Box<i64> c", "_1 = box 1; _2 = move _1; _3 = move _2; _4 = move _3; dead _4; dead _2; return"},
		{"let w: W; let n = w.n; let b = w.p.b; print(*w.p.b); print(w.p.a);", "#2 w; #1; #1 n; Box<i64>; Box<i64> b; i64; i64",
			"_2 = move _1.0; _3 = move _2; _4 = move _1.1.1; _5 = move _4; _6 = copy _1.1.1.*; print copy _6; _7 = copy _1.1.0; print copy _7; dead _5; dead _3; dead _1; return"},
		{"let p: P; let r = &p; let s = r; let t = &r; let u = *t;", "#0 p; &#0; &#0 r; &#0; &#0 s; & &#0; & &#0 t; &#0; &#0 u",
			"_2 = & _1; _3 = copy _2; _4 = copy _3; _5 = copy _4; _6 = & _3; _7 = copy _6; _8 = copy _7.*; _9 = copy _8; dead _9; dead _7; dead _5; dead _3; dead _1; return"},
		{"let p: P; let r = &mut p; let s = r; (*s).a = 2; *(*s).b = 3;", "#0 p; &mut #0; &mut #0 r; &mut #0; &mut #0 s",
			"_2 = &mut _1; _3 = move _2; _4 = move _3; _5 = move _4; _5.*.0 = 2; _5.*.1.* = 3; dead _5; dead _3; dead _1; return"},
		{"let p: P; let r = &mut p; let a = & (*r).b; let b = &mut *(*r).b;", "#0 p; &mut #0; &mut #0 r; &Box<i64>; &Box<i64> a; &mut i64; &mut i64 b",
			"_2 = &mut _1; _3 = move _2; _4 = & _3.*.1; _5 = copy _4; _6 = &mut _3.*.1.*; _7 = move _6; dead _7; dead _5; dead _3; dead _1; return"},
	} {
		mustLower(t, x.statements, x.locals, x.points)
	}
}

// P11.1: an NMake: its operands as they stand, its fields in their order.
func TestMake(t *testing.T) {
	for _, x := range []struct{ statements, locals, points string }{
		{"let n = N { n: 1, t: true };", "#1; #1 n", "_1 = #1(1, true); _2 = move _1; dead _2; return"},
		{"let n = N { t: true, n: 1 };", "#1; #1 n", "_1 = #1(1, true); _2 = move _1; dead _2; return"},
		{"let p = P { b: box(read()), a: read() };", "i64; Box<i64>; i64; #0; #0 p", "_1 = read; _2 = box copy _1; _3 = read; _4 = #0(copy _3, move _2); _5 = move _4; dead _5; return"},
		{"let w = pack(P { b: two(1, true), a: -1 });", "Box<i64>; i64; #0; #2; #2 w", "_1 = f1(1, true); _2 = - 1; _3 = #0(copy _2, move _1); _4 = f3(move _3); _5 = move _4; dead _5; return"},
	} {
		mustLower(t, x.statements, x.locals, x.points)
	}
}
