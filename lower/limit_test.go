package lower_test

import (
	"reflect"
	"strings"
	"testing"

	"loanword/api"
	"loanword/lower"
)

// many is a text so many times.
func many(s string, count int) string { return strings.Repeat(s+" ", count) }

// boxes is a type of so many boxes in one another.
func boxes(count int) string {
	return strings.Repeat("Box<", count) + "i64" + strings.Repeat(">", count)
}

// mustFit asks that a main with these statements is lowered, or is too large, and that it has so many points, locals and Borrows.
func mustFit(t *testing.T, what, statements string, fits bool, points, locals, loans int) {
	t.Helper()
	x := typed(t, "struct S { a: i64, b: Box<S>, c: "+boxes(7)+" } fn main() -> i64 { "+statements+" }")
	if mustHold(t, x) != fits {
		t.Errorf("%s: fits: %v", what, !fits)
	}
	if p, l, b, e := lower.Size(x, 0); p != points || l != locals || b != loans || e != api.OK {
		t.Errorf("%s: %d points, %d locals, %d Borrows, %v; want %d, %d, %d", what, p, l, b, e, points, locals, loans)
	}
}

// P11.1: as much as may be is taken; one more of anything is ErrPoint. Size tells both.
func TestLimits(t *testing.T) {
	mustFit(t, "points", many("print(1);", 1023), true, 1024, 1, 0)
	mustFit(t, "points", many("print(1);", 1024), false, 1025, 1, 0)
	mustFit(t, "points of which nobody goes to the last", many("print(1);", 1021)+"return 0;", true, 1024, 1, 0)
	mustFit(t, "points of which nobody goes to the last", many("print(1);", 1022)+"return 0;", false, 1025, 1, 0)
	mustFit(t, "points that leave variables", many("print(1);", 1014)+"loop { let a: i64; let b: i64; let c: i64; break; }", true, 1023, 4, 0)
	mustFit(t, "points that leave variables", many("print(1);", 1015)+"loop { let a: i64; let b: i64; let c: i64; break; }", true, 1024, 4, 0)
	mustFit(t, "points that leave variables", many("print(1);", 1015)+"loop { let a: i64; let b: i64; let c: i64; let d: i64; break; }", false, 1026, 5, 0)
	mustFit(t, "locals", many("let x: i64;", 511), true, 512, 512, 0)
	mustFit(t, "locals", many("let x: i64;", 512), false, 513, 513, 0)
	mustFit(t, "locals of no variable", many("print(-1);", 511), true, 1023, 512, 0)
	mustFit(t, "locals of no variable", many("print(-1);", 511)+"{ let x: i64; }", false, 1024, 513, 0)
	mustFit(t, "Borrows", "let x: i64; let r: &i64;"+many("r = &x;", 256), true, 515, 259, 256)
	mustFit(t, "Borrows", "let x: i64; let r: &i64;"+many("r = &x;", 257), false, 517, 260, 257)
	mustFit(t, "Borrows, half of them mutable", "let x: i64; let r: &i64; let s: &mut i64;"+many("r = &x; s = &mut x;", 128), true, 516, 260, 256)
	mustFit(t, "Borrows, half of them mutable", "let x: i64; let r: &i64; let s: &mut i64;"+many("r = &x; s = &mut x;", 128)+"s = &mut *s;", false, 518, 261, 257)
}

// P11.1: a place has at most MaxSteps steps, wherever it stands.
func TestSteps(t *testing.T) {
	let := "let b: " + boxes(9) + "; let s: S; "
	for _, x := range []struct {
		what, statement string
		points, locals  int
		loans           int
	}{
		{"read", "print(%sb);", 2, 1, 0},
		{"moved", "let c = %sb;", 3, 2, 0},
		{"assigned", "%sb = 1;", 1, 0, 0},
		{"lent", "let r = & %sb;", 3, 2, 1},
		{"lent mutably", "let r = &mut %sb;", 3, 2, 1},
	} {
		for steps := 7; steps <= 9; steps++ {
			statement := strings.Replace(x.statement, "%s", strings.Repeat("*", steps), 1)
			head := let
			if x.what == "read" || x.what == "assigned" {
				head = "let b: " + boxes(steps) + "; let s: S; "
			}
			mustFit(t, x.what+" by "+strings.Repeat("*", steps), head+statement, steps <= api.MaxSteps, 3+x.points, 3+x.locals, x.loans)
		}
	}
	mustFit(t, "fields and boxes, eight", let+"print((*(*(*s.b).b).b).a);", true, 5, 4, 0)
	mustFit(t, "fields and boxes, eight", let+"let x = *******s.c;", true, 6, 5, 0)
	mustFit(t, "fields and boxes, nine", let+"let x = &(*(*(*(*s.b).b).b).b).b;", false, 6, 5, 1)
	mustFit(t, "fields and boxes, nine", let+"print((*(*(*(*s.b).b).b).b).a);", false, 5, 4, 0)
	mustFit(t, "where nobody goes", let+"return 0; print((*(*(*(*s.b).b).b).b).a);", false, 7, 4, 0)
}

// P11.1: of several functions that are too large Unit names the first one; the others Fn answers.
func TestWhichIsTooLarge(t *testing.T) {
	const small, large = "{ return 1; }", 1025
	for _, which := range [][]int{{0}, {1}, {2}, {1, 2}, {0, 2}, {0, 1, 2}} {
		bodies := []string{small, small, small}
		for _, fn := range which {
			bodies[fn] = "{ " + many("print(1);", large-1) + "}"
		}
		x := typed(t, "fn f() -> i64 "+bodies[0]+" fn main() -> i64 "+bodies[1]+" fn g() -> i64 "+bodies[2])
		if u, fn, e := lower.Unit(x); fn != which[0] || e != api.ErrPoint || !reflect.DeepEqual(u, api.Unit{}) {
			t.Errorf("%v: %v, %d, %v", which, u, fn, e)
		}
		for fn, body := range bodies {
			g, e := lower.Fn(x, fn)
			points, _, _, sizeE := lower.Size(x, fn)
			if body == small && (e != api.OK || len(g.Points) != 3 || points != 3) || body != small && (e != api.ErrPoint || !reflect.DeepEqual(g, api.Graph{}) || points != large) || sizeE != api.OK {
				t.Errorf("%v: function %d: %v, %v, %d points, %v", which, fn, g, e, points, sizeE)
			}
		}
	}
}

// P11.1: what would be millions of points is told, and told soon; so is what would be thousands of locals.
func TestSizeOfMillions(t *testing.T) {
	const lets, breaks = 2600, 6500
	x := typed(t, "fn main() -> i64 { loop { "+strings.Repeat("let x:i64;", lets)+strings.Repeat("break;", breaks)+"} }")
	if points, locals, loans, e := lower.Size(x, 0); points != breaks*(lets+1)+lets+2 || locals != lets+1 || loans != 0 || e != api.OK {
		t.Errorf("%d, %d, %d, %v", points, locals, loans, e)
	}
	if _, fn, e := lower.Unit(x); fn != 0 || e != api.ErrPoint {
		t.Errorf("%d, %v", fn, e)
	}
	x = typed(t, "fn main() -> i64 { let x = 1; "+strings.Repeat("let r=&x;", 4000)+"}")
	if points, locals, loans, e := lower.Size(x, 0); points != 12003 || locals != 8002 || loans != 4000 || e != api.OK {
		t.Errorf("%d, %d, %d, %v", points, locals, loans, e)
	}
	if g, e := lower.Fn(x, 0); e != api.ErrPoint || !reflect.DeepEqual(g, api.Graph{}) {
		t.Errorf("%v, %v", g, e)
	}
}

// P11.1: blocks as deep as a tree may be, one behind the other without end.
func TestDeepBlocks(t *testing.T) {
	for _, s := range []string{
		many("{", 40) + "let x = 1; print(x);" + many("}", 40),
		"let x = true; " + many("loop { let y = 1; if x {", 10) + "break;" + many("} }", 10),
		"let x = true; " + many("while x { let y = 1;", 20) + "continue;" + many("}", 20),
		"let x = " + many("!", 40) + "true;",
		"let x = " + many("true &&", 40) + "true;",
		"let x = true" + many(" || (false", 40) + strings.Repeat(")", 40) + ";",
		"let x = " + many("box(", 40) + "1" + strings.Repeat(")", 40) + ";",
		many("if true { print(1); } else", 40) + "{ print(2); }",
	} {
		if !mustHold(t, typed(t, "fn main() -> i64 { "+s+" }")) {
			t.Errorf("%s: too large", s)
		}
	}
}
