package typing_test

import (
	"fmt"
	"reflect"
	"strings"
	"testing"

	"loanword/api"
	"loanword/decl"
	"loanword/tree"
	"loanword/typing"
)

// P8.1: the chapter's examples.
func TestOfExamples(t *testing.T) {
	for s, want := range map[string]api.Errno{
		"let x = 1; let x = true; if x { print(1); }":                  api.OK,
		"{ let y = 1; } print(@y);":                                    api.ErrVar,
		"let r = @&1; let b = *box(1);":                                api.ErrPlace,
		"let b = @*box(1);":                                            api.ErrPlace,
		"let b = box(1); let r = &b; let c = @*r; let d = **r;":        api.ErrMoved,
		"let b = box(1); let r = &b; let d = **r;":                     api.OK,
		"let p = P { b: box(1), a: 2 }; let q = &p; @@(*q).a = 3;":     api.ErrPlace,
		"let p = @P { a: 1 }; let p = P { a: 1, a: 2 };":               api.ErrCount,
		"let p = P { a: 1, @a: 2 };":                                   api.ErrCount,
		"@break; loop { break; }":                                      api.ErrLoop,
		"loop { break; }":                                              api.OK,
		"let x = @1 + true; let x = 1 == true; let x = true == false;": api.ErrType,
		"let x = @1 == true;":                                          api.ErrType,
		"let x = true == false;":                                       api.OK,
		"let x: i64;":                                                  api.OK,
		"let x: i64; let x: Box<i64> = @1;":                            api.ErrType,
	} {
		mustTell(t, inMain(s), want)
	}
}

// some are variables of most kinds of types.
const some = "let p = P { a: 1, b: box(2) }; let i = 1; let t = true; let b = box(1); let r = &p; let m = &mut p; let s = &r; let d = box(box(1)); "

// P8.1: what is well.
func TestWellExpressions(t *testing.T) {
	for _, s := range []string{
		"let x = p.a; let y = (*r).a; let z = (*m).a; let w = *(*r).b; let v = (**s).a; let u = *d; let c = **d;",
		"let x = *b; let y = *s;",
		"let x = *s; let y = &*x;",
		"let n = &mut r; let x = &mut *n; let y = &**n; let z = &mut *m; let w = &mut (*m).a; let v = &mut *(*m).b; let u = &mut *b; let q = &(**s).a;",
		"let x = -i; let y = !t; let z = - -*b; let w = !!t;",
		"ref(r, m); two(one(), one() == 1); let x = ref(&p, &mut p); main(); let y = two(*b, t);",
		"let x = P { a: *b, b: p.b }; let y = P { b: box(one()), a: x.a };",
		"let x = read() + one() * i; let y = &x; let z = box(y); let w = *z;",
		"let n = box(m); let x = *n; let y = m; let z = p.b;",
		"let n = &mut m; let x = &mut **n; let y = &mut (**n).b; (**n).a = 2; *n = m; **n = p;",
		"let x = i < 1 && t == (i >= 2) || !t != (1 <= 2) && i > i;",
	} {
		mustTell(t, inMain(some+s), api.OK)
	}
}

// P8.1: each thing that must be so of an expression, and where it is told that it is not.
func TestWrongExpressions(t *testing.T) {
	for s, want := range map[string]api.Errno{
		"print(@x);":        api.ErrVar,
		"print(@main);":     api.ErrVar,
		"let x = @x;":       api.ErrVar,
		"let x: i64 = @x;":  api.ErrVar,
		"@@x = 1;":          api.ErrVar,
		"i = @x;":           api.ErrVar,
		"print((*@x).a);":   api.ErrVar,
		"let x = box(-@x);": api.ErrVar,

		"let x = @one().a;":                 api.ErrPlace,
		"let x = @P { a: 1, b: b }.a;":      api.ErrPlace,
		"let x = @(&p).a;":                  api.ErrPlace,
		"let x = @i.a;":                     api.ErrType,
		"let x = @b.a;":                     api.ErrType,
		"let x = @r.a;":                     api.ErrType,
		"let x = @m.a;":                     api.ErrType,
		"let x = @p.a.a;":                   api.ErrType,
		"let x = @p.c;":                     api.ErrField,
		"let x = @p.p;":                     api.ErrField,
		"let x = @(*r).c;":                  api.ErrField,
		"let x = *@p.c;":                    api.ErrField,
		"let x = @*1;":                      api.ErrPlace,
		"let x = @*box(1);":                 api.ErrPlace,
		"let x = @*&i;":                     api.ErrPlace,
		"let x = @*two(1, true);":           api.ErrPlace,
		"let x = @*i;":                      api.ErrType,
		"let x = @*p;":                      api.ErrType,
		"let x = @*t;":                      api.ErrType,
		"let x = @**b;":                     api.ErrType,
		"let x = &@*i;":                     api.ErrType,
		"let x = @&-i;":                     api.ErrPlace,
		"let x = @&one();":                  api.ErrPlace,
		"let x = @&mut 1;":                  api.ErrPlace,
		"let x = @& &i;":                    api.ErrPlace,
		"let x = @&mut *r;":                 api.ErrPlace,
		"let x = @&mut (*r).a;":             api.ErrPlace,
		"let x = @&mut *(*r).b;":            api.ErrPlace,
		"let x = @&mut **s;":                api.ErrPlace,
		"let x = @&mut *s;":                 api.ErrPlace,
		"let n = &m; let x = @&mut **n;":    api.ErrPlace,
		"let n = &mut r; let x=@&mut **n;":  api.ErrPlace,
		"let n = box(r); let x=@&mut **n;":  api.ErrPlace,
		"let x = @-true;":                   api.ErrType,
		"let x = @-b;":                      api.ErrType,
		"let x = @-&i;":                     api.ErrType,
		"let x = @!1;":                      api.ErrType,
		"let x = @!r;":                      api.ErrType,
		"let x = -@-t;":                     api.ErrType,
		"let x = @b + b;":                   api.ErrType,
		"let x = @r == r;":                  api.ErrType,
		"let x = @t && 1;":                  api.ErrType,
		"let x = @t < t;":                   api.ErrType,
		"let x = 1 + (@t * 1);":             api.ErrType,
		"let x = @nobody(1);":               api.ErrFn,
		"@@nobody();":                       api.ErrFn,
		"@@p();":                            api.ErrFn,
		"let x = @R { a: 1 };":              api.ErrFn,
		"@@one(1);":                         api.ErrCount,
		"@@two(1);":                         api.ErrCount,
		"@@two();":                          api.ErrCount,
		"@@two(1, true, 1);":                api.ErrCount,
		"@@two(true, 1, 1);":                api.ErrCount,
		"two(@true, 1);":                    api.ErrType,
		"two(1, @1);":                       api.ErrType,
		"two(@b, true);":                    api.ErrType,
		"ref(@m, r);":                       api.ErrType,
		"ref(r, @r);":                       api.ErrType,
		"let x = P { a: 1, @c: 1 };":        api.ErrField,
		"let x = P { @p: 1, a: 1 };":        api.ErrField,
		"let x = P { a: @true, b: b };":     api.ErrType,
		"let x = P { b: @1, a: 1 };":        api.ErrType,
		"let x = @P { b: b };":              api.ErrCount,
		"let x = P { b: b, @b: b };":        api.ErrCount,
		"let x = P { a: 1, b: b, @a: 1 };":  api.ErrCount,
		"let x = Q { t: t, p: p, q: @b };":  api.ErrType,
		"let x = Q { t: t, p: @P { a: 1}};": api.ErrCount,

		"let x = @(*r).b;":              api.ErrMoved,
		"let x = @(*m).b;":              api.ErrMoved,
		"let x = @*m;":                  api.ErrMoved,
		"let x = @*r;":                  api.ErrMoved,
		"let n = &m; let x = @*n;":      api.ErrMoved,
		"let n = &mut m; let x = @*n;":  api.ErrMoved,
		"let n = box(r); let x = @**n;": api.ErrMoved,
		"let n = &d; let x = @**n;":     api.ErrMoved,
		"let x = -@*r;":                 api.ErrMoved,
		"let x = !@*r;":                 api.ErrMoved,
		"let x = 1 + @*r;":              api.ErrMoved,
		"let x = @@*r + 1;":             api.ErrMoved,
		"two(1, @*r);":                  api.ErrMoved,
		"let x = P { a: @*r };":         api.ErrMoved,
		"let x = box(@*r);":             api.ErrMoved,
		"return @*r;":                   api.ErrMoved,
		"print(@*r);":                   api.ErrMoved,
		"let x: i64 = @*r;":             api.ErrMoved,
		"if @*r { }":                    api.ErrMoved,
		"while @*r { }":                 api.ErrMoved,
		"p = @*r;":                      api.ErrMoved,
		"@@*r = p;":                     api.ErrPlace,
	} {
		mustTell(t, inMain(some+s), want)
	}
}

// P8.1: all signs between all kinds of types.
func TestSigns(t *testing.T) {
	for _, sign := range []string{"+", "-", "*", "/", "%", "==", "!=", "<", "<=", ">", ">=", "&&", "||"} {
		for _, a := range []string{"i", "t", "b", "r", "p", "m", "1", "false", "*b", "&i", "box(t)"} {
			for _, b := range []string{"i", "t", "b", "r", "p", "m", "read()", "true", "*b", "&i", "box(t)"} {
				mustHold(t, file(t, inMain(some+"let x = ("+a+") "+sign+" ("+b+"); let y = x + 1;")))
			}
		}
	}
	x := of(t, inMain("let x = 1 + 1; let y = 1 < 1; let z = true && true; let w = 1 != 1; let v = 7 % 2;"))
	for i, want := range []string{"i64", "bool", "bool", "bool", "i64"} {
		if s := text(x.Vars[3][i].Type); s != want {
			t.Errorf("variable %d: %s", i, s)
		}
	}
}

// P8.1: what statements ask.
func TestStatements(t *testing.T) {
	for s, want := range map[string]api.Errno{
		"let x: @R;":                       api.ErrName,
		"let x: &mut Box<@R> = i;":         api.ErrName,
		"let x: @&'a i64;":                 api.ErrName,
		"let x: & @&'a R;":                 api.ErrName,
		"let x: Box<i64> = @1;":            api.ErrType,
		"let x: &mut P = @&p;":             api.ErrType,
		"let x: Q = @p;":                   api.ErrType,
		"@@1 = 1;":                         api.ErrPlace,
		"@@one() = 1;":                     api.ErrPlace,
		"@@-i = 1;":                        api.ErrPlace,
		"@@&i = &i;":                       api.ErrPlace,
		"@@i + i = 1;":                     api.ErrPlace,
		"@@(*r).a = 1;":                    api.ErrPlace,
		"@@*r = p;":                        api.ErrPlace,
		"@@*(*r).b = 1;":                   api.ErrPlace,
		"@@(**s).a = true;":                api.ErrPlace,
		"let n = &m; @@(**n).a = 1;":       api.ErrPlace,
		"i = @true;":                       api.ErrType,
		"b = @1;":                          api.ErrType,
		"r = @&mut p;":                     api.ErrType,
		"*m = @p.a;":                       api.ErrType,
		"if @1 { }":                        api.ErrType,
		"if @b { } else { }":               api.ErrType,
		"if t { } else if @i { } else { }": api.ErrType,
		"while @1 { }":                     api.ErrType,
		"while @&t { }":                    api.ErrType,
		"@continue;":                       api.ErrLoop,
		"if t { @break; }":                 api.ErrLoop,
		"loop { } @break;":                 api.ErrLoop,
		"while t { } { { @continue; } }":   api.ErrLoop,
		"if t { loop { } @break; }":        api.ErrLoop,
		"loop { loop { } break; } @break;": api.ErrLoop,
		"return @true;":                    api.ErrType,
		"return @b;":                       api.ErrType,
		"loop { return @r; }":              api.ErrType,
		"print(@true);":                    api.ErrType,
		"print(@b);":                       api.ErrType,
		"print(@&i);":                      api.ErrType,
		"two(1, t); one(); @@r();":         api.ErrFn,
		"loop { if t { break; } else { continue; } } while t { { break; } }":                                             api.OK,
		"while t { loop { break; } continue; }":                                                                          api.OK,
		"i = 2; p.a = 3; *b = 4; *m = P { a: 1, b: b }; (*m).a = 5; *(*m).b = 6; **d = 7; r = &p; s = &r; p.b = box(1);": api.OK,
		"let x: i64 = 1; let y: Box<Q>; let z: & &mut P; let w: &P = r;":                                                 api.OK,
		"if t { } else if !t { print(1); } else { return 1; } print(*b); return *b; return i;":                           api.OK,
	} {
		mustTell(t, inMain(some+s), want)
	}
	mustTell(t, head+"fn f() -> bool { return @1; } fn main() -> i64 { return 0; }", api.ErrType)
	mustTell(t, head+"fn f(x: &P) -> &P { return x; } fn g<'a>(x: &'a mut P) -> &P { return @x; } fn main() -> i64 { return 0; }", api.ErrType)
	mustTell(t, head+"fn main() -> i64 { loop { } return 0; } fn f() -> i64 { @break; }", api.ErrLoop)
}

// P8.1: what a name means: which variable, from where to where.
func TestNames(t *testing.T) {
	for s, want := range map[string]string{
		"let x = 1; print(x); let x = 2; print(x);":                                                     "0 1",
		"let x = 1; let x = x; let x = x + x;":                                                          "0 1 1",
		"let x = 1; { let x = x; print(x); } print(x);":                                                 "0 1 0",
		"let x = 1; { print(x); let x = 2; { let x = x; print(x); } print(x); } print(x);":              "0 1 2 1 0",
		"let x = 1; if x == 1 { let x = 2; print(x); } else { print(x); let x = 3; } print(x);":         "0 1 0 0",
		"let x = true; while x { let y = x; let x = 1; } loop { let y = x; } let z = x;":                "0 0 0 0",
		"let x = 1; let y = 2; { let x = y; let y = x; } let y = x; let x = y;":                         "1 2 0 4",
		"let x = 1; if true { let x = 2; } else if x == 1 { let x = 3; } else { let y = x; } x = x;":    "0 0 0 0",
		"let x: i64; x = 1; let x: i64 = x; x = x;":                                                     "0 0 1 1",
		"let one = 1; let two = one; one = one() + two;":                                                "0 0 1",
		"{ let x = 1; x = 2; } { let x = true; x = false; } let x = box(1); *x = 2; { { } } print(*x);": "0 1 2 2",
	} {
		x, e := mustHold(t, file(t, inMain(s)))
		var l []string
		for n, y := range x.Tree.Nodes {
			if fn, _ := typing.Fn(x, n); e == api.OK && y.Kind == api.NVar && fn == 3 {
				l = append(l, fmt.Sprint(x.Means[n]))
			}
		}
		if strings.Join(l, " ") != want {
			t.Errorf("%q: %v, %v; want %s", s, l, e, want)
		}
	}
	for s, want := range map[string]api.Errno{
		"let x = @x;":                                                   api.ErrVar,
		"let x: i64 = @x;":                                              api.ErrVar,
		"@@x = 1; let x = 1;":                                           api.ErrVar,
		"if true { let x = 1; } print(@x);":                             api.ErrVar,
		"while true { let x = 1; } print(@x);":                          api.ErrVar,
		"loop { let x = 1; } print(@x);":                                api.ErrVar,
		"if true { let x = 1; } else { print(@x); }":                    api.ErrVar,
		"{ { let x = 1; } print(@x); }":                                 api.ErrVar,
		"while true { print(@x); let x = 1; }":                          api.ErrVar,
		"let x = 1; { let x = true; if x { } } if @x { }":               api.ErrType,
		"let x = true; { let x = 1; } if x { let x = 1; } if x { }":     api.OK,
		"let x = 1; let x = true; { let y = x; if y { } } print(@x);":   api.ErrType,
		"if true { let x = 1; } else if @@x == 1 { } ":                  api.ErrVar,
		"let y = 1; { let x = 1; } let z = y; { print(z); } print(@x);": api.ErrVar,
	} {
		mustTell(t, inMain(s), want)
	}
	// Another function's variables and parameters mean nothing here.
	mustTell(t, "fn f(x: i64) -> i64 { let y = x; return y; } fn main() -> i64 { return @x; }", api.ErrVar)
	mustTell(t, "fn f(x: i64) -> i64 { let y = x; return y; } fn main() -> i64 { return @y; }", api.ErrVar)
	// Parameters are in scope in the whole body, and hidden by lets.
	x := of(t, "fn f(x: i64, y: bool) -> i64 { { let y = x; x = y; } if y { let x = y; } return x; } fn main() -> i64 { return 0; }")
	var l []int
	for n, y := range x.Tree.Nodes {
		if y.Kind == api.NVar {
			l = append(l, x.Means[n])
		}
	}
	if want := []int{0, 0, 2, 1, 1, 0}; !reflect.DeepEqual(l, want) || len(x.Vars[0]) != 4 {
		t.Errorf("%v; want %v", l, want)
	}
}

// P8.1: the types of variables have the regions of their signature, or of what is written; those of expressions have none.
func TestRegions(t *testing.T) {
	x := of(t, "struct S { a: i64 } fn f<'a, 'b>(x: &'b S, y: &mut &'a S, z: &S) -> &'b S { let u = x; let v: &'a S = *y; let w: & &'b mut &S; let r = &v; let s = box(&x); let c = f(z, &mut v, &*z); return *r; } fn main() -> i64 { let x = box(1); return *x; }")
	var vars []string
	for _, v := range x.Vars[0] {
		vars = append(vars, v.Name+" "+text(v.Type))
	}
	want := []string{"x &'1 #0", "y &'2 mut &'0 #0", "z &'3 #0", "u &#0", "v &'0 #0", "w & &'1 mut &#0", "r & &#0", "s Box<& &#0>", "c &#0"}
	if !reflect.DeepEqual(vars, want) {
		t.Errorf("%q; want %q", vars, want)
	}
	for n, is := range x.Of {
		if s := text(is); strings.Contains(s, "'") {
			t.Errorf("node %d: %s", n, s)
		}
	}
	mustHold(t, x.Tree)
	if v := x.Vars[1]; len(v) != 1 || v[0].Name != "x" || text(v[0].Type) != "Box<i64>" || x.Tree.Nodes[v[0].Node].Kind != api.NLet {
		t.Errorf("%v", v)
	}
	// What a function declares is its own; a signature's lifetimes without a name have none in a let.
	mustTell(t, "fn f<'a>(x: &'a i64) -> i64 { return 0; } fn g<'b>(x: &'b i64) -> i64 { let y: @&'a i64 = x; return 0; } fn main() -> i64 { return 0; }", api.ErrName)
	mustTell(t, "fn f(x: &i64) -> i64 { let y: &i64 = x; return *y; } fn main() -> i64 { return 0; }", api.OK)
}

// P8.1: decl's errors come first, with their places, whatever the bodies are.
func TestDeclsErrors(t *testing.T) {
	const wrong = "fn w() -> i64 { print(nothing); break; } "
	const end = " fn main() -> i64 { return 0; }"
	for s, want := range map[string]api.Errno{
		wrong + "struct S { a: i64, @a: i64 }" + end:                       api.ErrTwice,
		wrong + "@fn w() -> i64 { }" + end:                                 api.ErrTwice,
		wrong + "fn f(x: @S) -> i64 { }" + end:                             api.ErrName,
		wrong + "struct S { a: @&i64 }" + end:                              api.ErrFieldRef,
		wrong + "@struct S { a: S }" + end:                                 api.ErrEndless,
		wrong + "fn f() -> @&i64 { }" + end:                                api.ErrElide,
		wrong + "@fn main() -> bool { }":                                   api.ErrMain,
		wrong + "@fn f(a: & & & & & i64, b: & & & & i64) -> i64 { }" + end: api.ErrLong,
		wrong: api.ErrMain,
		"":    api.ErrMain,
		"struct A { a: i64, b: i64, c: i64, d: i64, e: i64, f: i64 } @struct B { a: A, b: A, c: A } " + wrong + end: api.ErrLarge,
		"fn w() -> i64 { print(@nothing); }" + end: api.ErrVar,
	} {
		mustTell(t, s, want)
	}
	for _, f := range noFiles(t) {
		if x, at, e := typing.Of(f); e != api.ErrArg || at != 0 || !reflect.DeepEqual(x, api.Typed{}) {
			t.Errorf("%v: %v, %d, %v", f.Nodes, x, at, e)
		}
	}
}

// noFiles are trees that are no files, or may not be.
func noFiles(t *testing.T) []api.Tree {
	whole := file(t, "struct S { a: Box<S> } fn f<'a>(x: &'a i64) -> &i64 { let y = x; return y; } fn main() -> i64 { return 0; }")
	l := []api.Tree{{}, {Nodes: []api.Node{}}, {Nodes: make([]api.Node, api.MaxNodes+1)}}
	for n := 1; n < len(whole.Nodes); n++ {
		s, _ := tree.Sub(whole, n)
		l = append(l, s, api.Tree{Nodes: whole.Nodes[:n]})
	}
	for n := range whole.Nodes {
		for _, change := range []func(x *api.Node){
			func(x *api.Node) { x.At = -1 },
			func(x *api.Node) { x.N += 7 },
			func(x *api.Node) { x.S += "?" },
			func(x *api.Node) { x.L = append([]int{0}, x.L...) },
			func(x *api.Node) { x.L = []int{len(whole.Nodes)} },
			func(x *api.Node) { x.Kind = api.NoNode },
			func(x *api.Node) { x.Kind = 255 },
		} {
			c, _ := tree.Own(whole)
			change(&c.Nodes[n])
			if !tree.May(c) {
				l = append(l, c)
			}
		}
	}
	return l
}

// P8.1: a type as deep as may be, and one deeper, by references, by boxes, by a call's answer.
func TestDeepTypes(t *testing.T) {
	for _, step := range []string{"&x", "&mut x", "box(x)"} {
		for start, deep := range map[string]int{"1": 1, "box(box(true))": 3, "f()": 46} {
			steps := strings.Repeat("let x = "+step+"; ", api.MaxNest-deep)
			f := "fn f() -> " + strings.Repeat("Box<", 45) + "i64" + strings.Repeat(">", 45) + " { } fn main() -> i64 { let x = " + start + "; " + steps
			mustTell(t, f+"}", api.OK)
			mustTell(t, f+"let x = x; let y = @"+step+"; }", api.ErrNest)
			mustTell(t, f+"let y = x == @"+step+"; }", api.ErrNest)
		}
	}
	// Ahead of ErrNest stands what must be so of a place; behind it what is asked by who has it.
	deep := strings.Repeat("let x = &x; ", api.MaxNest-2)
	mustTell(t, "fn main() -> i64 { let i = 1; let x = &i; "+deep+"let y = @&mut *x; }", api.ErrPlace)
	mustTell(t, "fn main() -> i64 { let i = 1; let x = &i; "+deep+"let y = & *x; let z = -@&x; }", api.ErrNest)
	mustTell(t, "fn main() -> i64 { let i = 1; let x = &mut i; "+strings.ReplaceAll(deep, "&", "&mut ")+"let z = box(@*x); }", api.ErrMoved)
}

// P8.1: of several faults in one statement that one is told that is asked first.
func TestOrder(t *testing.T) {
	for s, want := range map[string]api.Errno{
		// Children from the left, then the node; behind it what is moved.
		"let z = nobody(@x, y);":                       api.ErrVar,
		"let z = nobody(1, @y);":                       api.ErrVar,
		"let z = two(@y);":                             api.ErrVar,
		"let z = two(@*r);":                            api.ErrMoved,
		"let z = nobody(@*r);":                         api.ErrMoved,
		"let z = two(true, @*r);":                      api.ErrMoved,
		"let z = two(@-true, x);":                      api.ErrType,
		"let z = -@x + y;":                             api.ErrVar,
		"let z = true + @y;":                           api.ErrVar,
		"let z = true + @*r;":                          api.ErrMoved,
		"let z = @@*r + x;":                            api.ErrMoved,
		"let z = R { a: @x, b: y };":                   api.ErrVar,
		"let z = R { c: @*r, a: true };":               api.ErrMoved,
		"let z = P { c: 1, a: @x };":                   api.ErrVar,
		"let z = @R { c: 1, a: true };":                api.ErrFn,
		"let z = P { a: @true, c: 1 };":                api.ErrType,
		"let z = P { a: 1, @c: 1, a: true };":          api.ErrField,
		"let z = P { a: 1, @a: true, c: 1 };":          api.ErrCount,
		"let z = P { a: @true, a: 1 };":                api.ErrType,
		"let z = P { b: @1 };":                         api.ErrType,
		"let z = P { @c: true };":                      api.ErrField,
		"let z = box(@x) + R { a: 1 };":                api.ErrVar,
		"let z = &mut @@x.c;":                          api.ErrVar,
		"let z = @(-i).c;":                             api.ErrPlace,
		"let z = @*-i;":                                api.ErrPlace,
		"let z = &@i.c;":                               api.ErrType,
		"let z = *@p.c;":                               api.ErrField,
		"let z = (*@x).c;":                             api.ErrVar,
		"let z = *-@x;":                                api.ErrVar,
		"let z = two(two(@x, 1), 1, 2);":               api.ErrVar,
		"let z = two(@two(1), 1, 2);":                  api.ErrCount,
		"let z = P { a: P { @c: 1 }, c: R { a: 1 } };": api.ErrField,

		// Statements: what a let's type says goes ahead of its expression, that ahead of whether they are alike.
		"let z: @R = x;":                     api.ErrName,
		"let z: Box<@R> = x;":                api.ErrName,
		"let z: i64 = @x;":                   api.ErrVar,
		"let z: i64 = @*r;":                  api.ErrMoved,
		"let z: i64 = @-true;":               api.ErrType,
		"@@x = y;":                           api.ErrVar,
		"1 = @y;":                            api.ErrVar,
		"1 = @*r;":                           api.ErrMoved,
		"@@1 = true;":                        api.ErrPlace,
		"@@*r = 1;":                          api.ErrPlace,
		"@@(*r).a = true;":                   api.ErrPlace,
		"(*r).a = @-true;":                   api.ErrType,
		"if @x { y = 1; }":                   api.ErrVar,
		"if @1 { y = 1; } else { }":          api.ErrType,
		"if @*r { y = 1; }":                  api.ErrMoved,
		"if t { @@y = 1; } else if 1 { }":    api.ErrVar,
		"if t { } else if @1 { y = 1; }":     api.ErrType,
		"if t { } else { @break; } if 1 { }": api.ErrLoop,
		"while @1 { y = 1; }":                api.ErrType,
		"while @x { y = 1; }":                api.ErrVar,
		"while t { @@y = 1; } break;":        api.ErrVar,
		"loop { break; @@y = 1; } break;":    api.ErrVar,
		"return @x; break;":                  api.ErrVar,
		"@break; return x;":                  api.ErrLoop,
		"print(@x); break;":                  api.ErrVar,
		"{ { @continue; } print(x); }":       api.ErrLoop,
		"let z = 1; print(@true); let y: R;": api.ErrType,
	} {
		mustTell(t, inMain(some+s), want)
	}
	// Function by function, as they stand.
	mustTell(t, "fn main() -> i64 { return @x; } fn f() -> i64 { return y; }", api.ErrVar)
	mustTell(t, "fn f() -> i64 { return 1; } fn main() -> i64 { @break; } fn g() -> i64 { return y; }", api.ErrLoop)
	mustTell(t, "fn f() -> i64 { return @g(true); } fn main() -> i64 { break; } fn g() -> i64 { return y; }", api.ErrCount)
}

// P8.1: each two faults, in either order, in one block, in blocks within one another, in two functions.
func TestFaultsInOrder(t *testing.T) {
	all := map[string]api.Errno{
		"print(@x);":                    api.ErrVar,
		"let c = @nobody();":            api.ErrFn,
		"let c = @R { a: 1 };":          api.ErrFn,
		"print(@p.c);":                  api.ErrField,
		"p.a = @t;":                     api.ErrType,
		"let c = @!i;":                  api.ErrType,
		"@@*r = p;":                     api.ErrPlace,
		"let c = @&1;":                  api.ErrPlace,
		"let c = @*r;":                  api.ErrMoved,
		"@@one(1);":                     api.ErrCount,
		"let c = @P { a: 1 };":          api.ErrCount,
		"{ @continue; }":                api.ErrLoop,
		"let c: &mut @R;":               api.ErrName,
		"if @1 { }":                     api.ErrType,
		"{ " + nest + " let c = @&x; }": api.ErrNest,
	}
	for a, want := range all {
		for b := range all {
			other := strings.ReplaceAll(b, "@", "")
			for _, s := range []string{
				some + a + " " + other,
				some + "{ " + a + " } " + other,
				some + "loop { if t { print(1); " + a + " } else { " + other + " } break; }",
				some + a + " return 0; } fn g() -> i64 { " + some + other,
			} {
				if a == "{ @continue; }" && strings.Contains(s, "loop") {
					continue
				}
				mustTell(t, inMain(s), want)
			}
		}
	}
}

// nest makes x as deep a type as may be.
var nest = "let x = 1; " + strings.Repeat("let x = box(x); ", api.MaxNest-1)

// P8.1, P8.3: all expressions of up to three signs over variables of all kinds, wherever an expression stands.
func TestSmallExpressions(t *testing.T) {
	leaves := []string{"i", "t", "b", "p", "r", "m", "s", "n", "1", "box(p)", "x"}
	var layers [4][]string
	layers[0] = leaves
	for k := 1; k < len(layers); k++ {
		for _, e := range layers[k-1] {
			for _, form := range []string{"*E", "(E).a", "(E).b", "&E", "&mut E", "-E", "!E", "box(E)"} {
				layers[k] = append(layers[k], strings.ReplaceAll(form, "E", "("+e+")"))
			}
		}
	}
	well := 0
	for k, layer := range layers {
		for i, e := range layer {
			for j, form := range []string{"let c = E;", "E = 1;", "i = E;", "print(E);", "let c: &mut P = E;", "if E { }", "two(1, E);", "let c = E == 1;", "b = P { a: E };"} {
				// Of the many great ones each stands in one form.
				if k == 3 && (i+i/8+i/64)%9 != j {
					continue
				}
				f := file(t, inMain(some+"let n = &m; "+strings.ReplaceAll(form, "E", e)))
				if x, e := mustHold(t, f); e == api.OK {
					well++
					if k < 3 && well%8 == 0 {
						mustAsk(t, x)
					}
				}
			}
		}
	}
	if well < 120 {
		t.Errorf("only %d are well", well)
	}
}

// P8.1: files as great as may be, with many names, many types, all structs and functions.
func TestGreatFiles(t *testing.T) {
	var items []string
	for n := range api.MaxItems {
		var fields, params []string
		for k := range 8 {
			fields = append(fields, fmt.Sprintf("p%d:Box<S%d>", k, k*4))
			params = append(params, fmt.Sprintf("p%d:S%d", k, k*4))
		}
		items = append(items, fmt.Sprintf("struct S%d{%s}", n, strings.Join(fields, ",")))
		if n > 0 {
			items = append(items, fmt.Sprintf("fn f%d(%s)->S%d{}", n, strings.Join(params, ","), n))
		}
	}
	lets := strings.Join(items, "") + "fn main()->i64{" + strings.Repeat("let x:Box<S9>;", 3700) + "}"
	var many []string
	for n := range 3300 {
		many = append(many, fmt.Sprintf("let x%d=1;", n))
	}
	names := "fn main()->i64{" + strings.Join(many, "") + strings.Repeat("print(x0);", 2200) + "}"
	for _, s := range []string{lets, names} {
		x := of(t, s)
		last := len(x.Of) - 1
		if v := x.Vars[len(x.Vars)-1]; len(v) < 3000 || len(x.Means) != last+1 || !typing.May(x) {
			t.Errorf("%d variables, %d nodes", len(v), len(x.Means))
		}
		if l, e := typing.Scope(x, last); e != api.OK || len(l) < 3000 {
			t.Errorf("%d in scope, %v", len(l), e)
		}
	}
}

// P8.1: files by chance, well and at fault, held against what is said of them.
func TestFilesByChance(t *testing.T) {
	c := byChance(81)
	met := map[api.Errno]int{}
	for range 1800 {
		f := file(t, c.fileText())
		_, e := mustHold(t, f)
		met[e]++
		_, e = mustHold(t, c.damaged(f))
		met[e]++
	}
	for _, e := range []api.Errno{api.ErrVar, api.ErrFn, api.ErrField, api.ErrType, api.ErrPlace, api.ErrMoved, api.ErrCount, api.ErrLoop, api.ErrName} {
		if met[e] < 15 {
			t.Errorf("error %d: met %d times", e, met[e])
		}
	}
	if met[api.OK] < 1500 {
		t.Errorf("only %d are well", met[api.OK])
	}
}

// P8.1: where nodes stand in the text is of no moment, and is told as it was.
func TestPlacesAreOfNoMoment(t *testing.T) {
	f := file(t, inMain(some))
	want := of(t, inMain(some))
	for n := range f.Nodes {
		f.Nodes[n].At = n * 7 % 50
	}
	x, _, e := typing.Of(f)
	if e != api.OK || !reflect.DeepEqual(x.Tree, f) {
		t.Errorf("%v, %v", x.Tree, e)
	}
	x.Tree = want.Tree
	if !reflect.DeepEqual(x, want) {
		t.Errorf("%v; want %v", x, want)
	}
}

// P8.1: Decls is what decl answers.
func TestDeclsAreDecls(t *testing.T) {
	x := of(t, inMain(some))
	d, _, _ := decl.Of(x.Tree)
	if !reflect.DeepEqual(x.Decls, d) || len(x.Vars) != len(d.Sigs) {
		t.Errorf("%v; want %v", x.Decls, d)
	}
}
