package decl_test

import (
	"fmt"
	"strings"
	"testing"

	"loanword/api"
	"loanword/decl"
	"loanword/tree"
)

// P7.1: the chapter's examples.
func TestOfExamples(t *testing.T) {
	for _, c := range []struct {
		s    string
		want string
		e    api.Errno
	}{
		{"fn f<'a>(x: &'a i64, y: &i64) -> &'a i64 { return x; }" + end, "f<a>2(x:&'0 i64, y:&'1 i64)&'0 i64[]; main<>0()i64[]", api.OK},
		{"fn g<'a, 'b>(x: &'a &'b i64) -> i64 { return 0; }" + end, "g<a b>2(x:&'0 &'1 i64)i64[1>0]; main<>0()i64[]", api.OK},
		{"fn h(x: &mut &i64) -> @&i64 { return x; }" + end, "", api.ErrElide},
		{"fn h(x: & &i64) -> @&i64 { return x; }" + end, "", api.ErrElide},
		{"@struct S { a: S }" + end, "", api.ErrEndless},
		{"struct S { a: Box<S> }" + end, "S{a:Box<#0>}; main<>0()i64[]", api.OK},
		{"struct S { a: @&i64 }" + end, "", api.ErrFieldRef},
		{"@fn main(x: i64) -> i64 { return x; }", "", api.ErrMain},
		{"fn f() -> i64 { return 0; }", "", api.ErrMain},
	} {
		mustTell(t, c.s, c.want, c.e)
	}
}

// mustTell asks for these declarations of a text, or for this error at the mark.
func mustTell(t *testing.T, s, want string, wantE api.Errno) {
	t.Helper()
	f, wantAt := marked(t, s)
	d, at, e := decl.Of(f)
	if told(d) != want || at != wantAt || e != wantE {
		t.Errorf("%q: %s, at %d, %v; want %s, at %d, %v", s, told(d), at, e, want, wantAt, wantE)
	}
	mustHold(t, f)
}

// P7.1: lifetimes: their numbers, which one an answer's reference has, what outlives what.
func TestSignatures(t *testing.T) {
	for s, want := range map[string]string{
		"f() -> i64":                                                        "f<>0()i64[]",
		"f<'a>() -> i64":                                                    "f<a>1()i64[]",
		"f<'a>() -> &'a i64":                                                "f<a>1()&'0 i64[]",
		"f(x: &i64, y: &i64) -> i64":                                        "f<>2(x:&'0 i64, y:&'1 i64)i64[]",
		"f(x: &i64) -> &i64":                                                "f<>1(x:&'0 i64)&'0 i64[]",
		"f(x: &i64) -> &mut Box<& &mut bool>":                               "f<>1(x:&'0 i64)&'0 mut Box<&'0 &'0 mut bool>[]",
		"f<'a>(x: &i64) -> &i64":                                            "f<a>2(x:&'1 i64)&'1 i64[]",
		"f<'a>(x: &'a i64) -> &i64":                                         "f<a>1(x:&'0 i64)&'0 i64[]",
		"f<'a, 'b>(x: &'b i64) -> &'a &i64":                                 "f<a b>2(x:&'1 i64)&'0 &'1 i64[1>0]",
		"f<'a>(x: &'a i64, y: Box<&'a mut bool>) -> &i64":                   "f<a>1(x:&'0 i64, y:Box<&'0 mut bool>)&'0 i64[]",
		"f<'a>(x: &'a &'a i64) -> &i64":                                     "f<a>1(x:&'0 &'0 i64)&'0 i64[]",
		"f<'b, 'a>(x: &'a i64, y: i64, z: & &'b &bool) -> i64":              "f<b a>4(x:&'1 i64, y:i64, z:&'2 &'0 &'3 bool)i64[0>2 3>0 3>2]",
		"f(x: & & &i64) -> i64":                                             "f<>3(x:&'0 &'1 &'2 i64)i64[1>0 2>0 2>1]",
		"f(x: &mut Box<Box<&i64>>) -> i64":                                  "f<>2(x:&'0 mut Box<Box<&'1 i64>>)i64[1>0]",
		"f<'a, 'b>() -> Box<&'a mut &'b i64>":                               "f<a b>2()Box<&'0 mut &'1 i64>[1>0]",
		"f<'a: 'b, 'b>() -> i64":                                            "f<a b>2()i64[0>1]",
		"f<'a, 'b: 'a>() -> i64":                                            "f<a b>2()i64[1>0]",
		"f<'a: 'b, 'b: 'a>() -> i64":                                        "f<a b>2()i64[0>1 1>0]",
		"f<'a: 'a>() -> i64":                                                "f<a>1()i64[]",
		"f<'a: 'a + 'b + 'b + 'a, 'b>() -> i64":                             "f<a b>2()i64[0>1]",
		"f<'a: 'b, 'b: 'c, 'c: 'd, 'd>() -> i64":                            "f<a b c d>4()i64[0>1 0>2 0>3 1>2 1>3 2>3]",
		"f<'d, 'c: 'd, 'b: 'c, 'a: 'b>() -> i64":                            "f<d c b a>4()i64[1>0 2>0 2>1 3>0 3>1 3>2]",
		"f<'a: 'b, 'b: 'c, 'c: 'a>() -> i64":                                "f<a b c>3()i64[0>1 0>2 1>0 1>2 2>0 2>1]",
		"f<'a, 'b: 'a + 'c, 'c>() -> i64":                                   "f<a b c>3()i64[1>0 1>2]",
		"f<'a, 'b, 'c>(x: &'a &'b i64, y: &'b &'c i64) -> i64":              "f<a b c>3(x:&'0 &'1 i64, y:&'1 &'2 i64)i64[1>0 2>0 2>1]",
		"f<'a, 'b, 'c>(x: &'a &'b i64) -> &'b &'c i64":                      "f<a b c>3(x:&'0 &'1 i64)&'1 &'2 i64[1>0 2>0 2>1]",
		"f<'a, 'b: 'c, 'c>(x: &'a mut &'b i64, y: & &'a i64) -> i64":        "f<a b c>4(x:&'0 mut &'1 i64, y:&'3 &'0 i64)i64[0>3 1>0 1>2 1>3]",
		"f<'a, 'b>(x: &'a &'b i64, y: &'b &'a i64) -> i64":                  "f<a b>2(x:&'0 &'1 i64, y:&'1 &'0 i64)i64[0>1 1>0]",
		"f<'a>(a: &'a i64, f: i64, main: i64, f1: bool) -> &'a i64":         "f<a>1(a:&'0 i64, f:i64, main:i64, f1:bool)&'0 i64[]",
		"f<'a, 'b>(x: &'a Box<& &'b mut Box<& bool>>) -> Box<Box<&'a i64>>": "f<a b>4(x:&'0 Box<&'2 &'1 mut Box<&'3 bool>>)Box<Box<&'0 i64>>[1>0 1>2 2>0 3>0 3>1 3>2]",
	} {
		mustTell(t, "fn "+s+" { return 0; }"+end, want+"; main<>0()i64[]", api.OK)
	}
}

// P7.1: items are numbered as they stand, each among its kind; a name may stand ahead of what it means; what is of two kinds may have one name.
func TestItems(t *testing.T) {
	for s, want := range map[string]string{
		"fn f(x: T, y: &S) -> Box<T> { return 0; } struct S { a: Box<T> } fn main() -> i64 { return 0; } struct T { b: bool, a: S } fn g() -> S { return 0; }": "S{a:Box<#1>}; T{b:bool, a:#0}; f<>1(x:#1, y:&'0 #0)Box<#1>[]; main<>0()i64[]; g<>0()#0[]",
		"struct S { s: i64, main: Box<Box<i64>> } struct T { s: S, a: S }" + end:                                                                               "S{s:i64, main:Box<Box<i64>>}; T{s:#0, a:#0}; main<>0()i64[]",
		"fn a<'a, 'b>(a: i64, b: &'a i64) -> i64 { return 0; } fn b<'a, 'b>(a: i64, b: &'b i64) -> i64 { return 0; }" + end:                                    "a<a b>2(a:i64, b:&'0 i64)i64[]; b<a b>2(a:i64, b:&'1 i64)i64[]; main<>0()i64[]",
		"struct Main { a: bool } fn main() -> i64 { return 0; }":                                                                                               "Main{a:bool}; main<>0()i64[]",
		"fn main() -> i64 { let x: Q = 1; let y: &'z &Q; loop { let z: Box<Q>; } return 0; }":                                                                  "main<>0()i64[]",
	} {
		mustTell(t, s, want, api.OK)
	}
	d := of(t, "struct S { a: i64 } fn f() -> i64 { return 0; } struct T { a: i64 }"+end)
	if d.Sigs[0].Node != 4 || d.Sigs[1].Node != 12 {
		t.Errorf("nodes %d, %d", d.Sigs[0].Node, d.Sigs[1].Node)
	}
}

// P7.1: what is at fault, and where.
func TestFaults(t *testing.T) {
	for s, want := range map[string]api.Errno{
		"struct S { a: i64 } @struct S { b: i64 }" + end:                                       api.ErrTwice,
		"struct S { a: i64 } fn f() -> i64 { } @struct S { a: i64 } struct S { b: i64 }" + end: api.ErrTwice,
		"fn f() -> i64 { } @fn f(x: i64) -> i64 { }" + end:                                     api.ErrTwice,
		"fn main() -> i64 { } @fn main() -> i64 { }":                                           api.ErrTwice,
		"struct S { a: i64, b: i64, @a: bool, b: i64 }" + end:                                  api.ErrTwice,
		"fn f(x: i64, y: i64, @y: bool) -> i64 { }" + end:                                      api.ErrTwice,
		"fn f<'a, 'b, @'b, 'a>() -> i64 { }" + end:                                             api.ErrTwice,
		"fn f<'a, @'a>(x: &'a i64) -> &'a i64 { }" + end:                                       api.ErrTwice,

		"struct S { a: i64, b: @T }" + end:                              api.ErrName,
		"struct S { a: Box<Box<@T>> }" + end:                            api.ErrName,
		"fn f(x: S, y: @T) -> i64 { } struct S { a: i64 }" + end:        api.ErrName,
		"fn f(x: &mut Box<@T>) -> i64 { }" + end:                        api.ErrName,
		"fn f() -> @T { }" + end:                                        api.ErrName,
		"fn f() -> Box<@T> { }" + end:                                   api.ErrName,
		"fn main() -> @Main { }":                                        api.ErrName,
		"fn f<'a: @'b>() -> i64 { }" + end:                              api.ErrName,
		"fn f<'a, 'b: 'a + @'c + 'a>() -> i64 { }" + end:                api.ErrName,
		"fn f<'a>(x: @&'b i64) -> i64 { }" + end:                        api.ErrName,
		"fn f<'a>(x: &'a mut & @&'b i64) -> i64 { }" + end:              api.ErrName,
		"fn f(x: @&'x i64) -> i64 { }" + end:                            api.ErrName,
		"fn f<'a>(x: &'a i64) -> @&'b i64 { }" + end:                    api.ErrName,
		"fn f<'a>(x: &'a i64) -> &'a Box<@&'f i64> { }" + end:           api.ErrName,
		"fn f<'a>() -> i64 { } fn g(x: @&'a i64) -> i64 { }" + end:      api.ErrName,
		"fn f<'a>() -> i64 { } fn g<'b: @'a>() -> i64 { }" + end:        api.ErrName,
		"fn g(x: @&'a i64) -> i64 { } fn f<'a>() -> i64 { }" + end:      api.ErrName,
		"fn f(x: @&'a i64) -> i64 { } struct S { a: i64 }" + end:        api.ErrName,
		"fn f<'a>() -> i64 { let x: &'b i64; } fn g() -> @Q { }" + end:  api.ErrName,
		"fn f() -> i64 { } fn g(x: i64, f: @F) -> i64 { }" + end:        api.ErrName,
		"fn f<'x: 'y, 'y>(x: &'x i64, y: @&'z i64) -> i64 { }" + end:    api.ErrName,
		"struct S { a: i64 } fn f<'a>(x: &'a S, y: @R) -> &R { }" + end: api.ErrName,

		"struct S { a: i64, b: @&i64 }" + end:                  api.ErrFieldRef,
		"struct S { a: Box<Box<@&mut i64>> }" + end:            api.ErrFieldRef,
		"struct S { a: @&'a &'b i64 }" + end:                   api.ErrFieldRef,
		"struct S { a: @&Q, b: R }" + end:                      api.ErrFieldRef,
		"fn f<'a>() -> i64 { } struct S { a: @&'a i64 }" + end: api.ErrFieldRef,

		"struct S { a: Box<S>, b: bool } @struct T { s: S, t: T }" + end:                                 api.ErrEndless,
		"struct R { s: S } @struct S { t: T } struct T { s: S }" + end:                                   api.ErrEndless,
		"struct R { a: i64 } @struct S { t: T } struct T { a: i64, u: U } struct U { b: R, s: S }" + end: api.ErrEndless,

		"struct A { a: i64, b: i64, c: i64, d: i64, e: i64, f: i64, g: i64, h: i64 } struct B { a: A, b: A } @struct C { a: B, b: bool }" + end:   api.ErrLarge,
		"@struct C { a: B, b: Box<C> } struct A { a: i64, b: i64, c: i64, d: i64, e: i64, f: i64, g: i64, h: i64 } struct B { a: A, b: A }" + end: api.ErrLarge,

		"fn f() -> @&i64 { }" + end:                                   api.ErrElide,
		"fn f(x: i64, y: Box<bool>) -> Box<@&mut i64> { }" + end:      api.ErrElide,
		"fn f<'a>() -> @&i64 { }" + end:                               api.ErrElide,
		"fn f<'a>() -> &'a @&i64 { }" + end:                           api.ErrElide,
		"fn f(x: &i64, y: &i64) -> @& &i64 { }" + end:                 api.ErrElide,
		"fn f<'a>(x: &'a i64, y: &i64) -> &'a Box<@& &i64> { }" + end: api.ErrElide,
		"fn f<'a, 'b>(x: &'a i64, y: &'b i64) -> @&i64 { }" + end:     api.ErrElide,
		"fn f<'a>(x: &'a &i64) -> &'a @&i64 { }" + end:                api.ErrElide,
		"fn main() -> @&i64 { }":                                      api.ErrElide,

		"":                      api.ErrMain,
		"struct S { a: i64 }":   api.ErrMain,
		"fn main1() -> i64 { }": api.ErrMain,
		"fn f(main: i64) -> i64 { let main = 1; }":        api.ErrMain,
		"fn f() -> i64 { } @fn main() -> bool { }":        api.ErrMain,
		"fn f() -> i64 { } @fn main<'a>() -> i64 { }":     api.ErrMain,
		"fn f() -> i64 { } @fn main<'a>() -> &'a i64 { }": api.ErrMain,
		"fn f() -> i64 { } @fn main() -> Box<i64> { }":    api.ErrMain,
		"fn f() -> i64 { } @fn main(x: &i64) -> &i64 { }": api.ErrMain,
		"struct S { a: i64 } @fn main() -> S { }":         api.ErrMain,
		"@fn main(x: i64) -> i64 { } fn f() -> i64 { }":   api.ErrMain,
	} {
		mustTell(t, s, "", want)
	}
}

// wrong is some items with just one fault, and in which step it is asked for; what is told within a step goes by place, but for ErrEndless, which goes ahead of ErrLarge.
type wrong struct {
	items string
	step  int
	e     api.Errno
}

func wrongs() []wrong {
	return []wrong{
		{"fn t1() -> i64 { } @fn t1() -> i64 { }", 2, api.ErrTwice},
		{"struct T2 { a: i64, @a: i64 }", 2, api.ErrTwice},
		{"fn t3<'a, @'a>() -> i64 { }", 2, api.ErrTwice},
		{"fn n1(x: @Q) -> i64 { }", 2, api.ErrName},
		{"fn n2<'a: @'b>() -> i64 { }", 2, api.ErrName},
		{"struct N3 { a: @Q }", 2, api.ErrName},
		{"struct R1 { a: Box<@&i64> }", 2, api.ErrFieldRef},
		{"@struct E1 { a: E1 }", 3, api.ErrEndless},
		{"struct F0 { a: i64, b: F1 } @struct F1 { a: F2 } struct F2 { a: F1 }", 3, api.ErrEndless},
		{"struct L0 { a: i64, b: i64, c: i64, d: i64, e: i64, f: i64 } @struct L1 { a: L0, b: L0, c: L0 }", 4, api.ErrLarge},
		{"@struct M1 { a: M0, b: M0, c: M0 } struct M0 { a: i64, b: i64, c: i64, d: i64, e: i64, f: i64 }", 4, api.ErrLarge},
		{"fn l1() -> @&i64 { }", 5, api.ErrElide},
		{"@fn c1<'a, 'b, 'c, 'd, 'e, 'f, 'g, 'h>(x: &i64) -> i64 { }", 5, api.ErrLong},
		{"@fn main(x: i64) -> i64 { }", 6, api.ErrMain},
	}
}

// P7.1: of two faults that one is told that is asked for first, over the whole file; within a step the first one.
func TestFaultsInOrder(t *testing.T) {
	all := wrongs()
	for i, a := range all {
		for j, b := range all {
			if i == j {
				continue
			}
			one, two := a.items, b.items
			e := a.e
			if b.step < a.step {
				one, e = strings.Replace(one, "@", "", 1), b.e
			} else {
				two = strings.Replace(two, "@", "", 1)
			}
			s := one + " " + two
			if a.step < 6 && b.step < 6 && (i+j)%2 == 0 {
				s += end
			}
			mustTell(t, s, "", e)
		}
	}
}

// P7.1: within one function what is asked first is told first.
func TestFaultsOfOneFunction(t *testing.T) {
	for s, want := range map[string]api.Errno{
		"fn f(a: & & & & & i64, b: & & & & i64) -> Box<@&i64> { }" + end: api.ErrElide,
		"@fn f(a: & & & & & i64, b: & & & & i64) -> i64 { }" + end:       api.ErrLong,
		"@fn main(a: & & & & & i64, b: & & & & i64) -> i64 { }":          api.ErrLong,
		"fn f() -> i64 { } @fn f(x: Q, x: &'b R) -> S { }" + end:         api.ErrTwice,
		"fn f<'a: 'a + @'b, 'a>(x: Q, x: &'b R) -> S { }" + end:          api.ErrName,
		"fn f<'a: 'a, @'a: 'b>(x: Q, x: &'b R) -> S { }" + end:           api.ErrTwice,
		"fn f<'a>(x: &'a @Q, x: &'b R) -> S { }" + end:                   api.ErrName,
		"fn f<'a>(x: @&'b Q, x: &'b R) -> S { }" + end:                   api.ErrName,
		"fn f<'a>(x: i64, @x: &'b R) -> S { }" + end:                     api.ErrTwice,
		"fn f<'a>(x: i64, y: @&'b R) -> S { }" + end:                     api.ErrName,
		"fn f<'a>(x: i64, y: &'a i64) -> @S { } struct T { a: R }" + end: api.ErrName,
		"struct S { a: @&Q, a: &R }" + end:                               api.ErrFieldRef,
		"struct S { a: Box<@Q>, a: &R }" + end:                           api.ErrName,
		"struct S { a: S, @a: &R }" + end:                                api.ErrTwice,
	} {
		mustTell(t, s, "", want)
	}
}

// many are so many structs, or functions, from a number on.
func many(form string, from, count int) string {
	var l []string
	for n := range count {
		l = append(l, fmt.Sprintf(form, from+n))
	}
	return strings.Join(l, " ")
}

const (
	aStruct = "struct S%d { a: i64 }"
	aFn     = "fn f%d() -> i64 { }"
)

// P7.1: as many items as may be, and one more, of each kind.
func TestTooManyItems(t *testing.T) {
	most := api.MaxItems
	for _, s := range []string{
		many(aStruct, 0, most) + end,
		many(aFn, 0, most-1) + end,
		many(aStruct, 0, most) + many(aFn, 0, most-1) + end,
	} {
		if _, e := mustHold(t, file(t, s)); e != api.OK {
			t.Errorf("%q: %v", s, e)
		}
	}
	for s, want := range map[string]api.Errno{
		many(aStruct, 0, most) + " @struct T { a: i64 }" + end:                                                                       api.ErrLong,
		many(aFn, 0, most) + " @" + end[1:]:                                                                                          api.ErrLong,
		many(aFn, 0, most) + many(aStruct, 0, most) + " @struct T { a: i64 }" + end:                                                  api.ErrLong,
		many(aFn, 0, most) + many(aStruct, 0, most) + "@" + end[1:] + " struct T { a: i64 }":                                         api.ErrLong,
		many(aFn, 0, most) + many(aStruct, 0, most) + "@struct T { a: i64 } " + many(aStruct, 50, 40) + many(aFn, 50, 40):            api.ErrLong,
		"struct Q { a: Q, a: & R } fn f(x: Z) -> &i64 { }" + many(aStruct, 0, most-1) + many(aFn, 0, most-1) + " @fn f() -> i64 { }": api.ErrLong,
		"struct Q { a: i64, @a: & R } fn f(x: Z) -> &i64 { }" + many(aStruct, 0, most-1) + many(aFn, 0, most-1):                      api.ErrTwice,
		many(aFn, 0, most-1) + " @fn f0() -> i64 { }":                                                                                api.ErrTwice,
		many(aFn, 0, most): api.ErrMain,
	} {
		mustTell(t, s, "", want)
	}
}

// P7.1: as many lifetimes as may be, and one more, declared or not.
func TestTooManyLives(t *testing.T) {
	names := []string{"'a", "'b", "'c", "'d", "'e", "'f", "'g", "'h"}
	for declared := range api.MaxLives + 1 {
		for bare := range api.MaxLives + 3 {
			s := "fn f"
			if declared > 0 {
				s += "<" + strings.Join(names[:declared], ", ") + ">"
			}
			s += "(x: Box<" + strings.Repeat("& ", bare/2) + "i64>, y: " + strings.Repeat("& ", bare-bare/2) + "i64, z: " + strings.Repeat("&'a ", min(declared, 1)*3) + "i64) -> i64 { }" + end
			d, e := mustHold(t, file(t, s))
			switch {
			case declared+bare > api.MaxLives:
				if e != api.ErrLong {
					t.Errorf("%q: %v", s, e)
				}
			case e != api.OK || d.Sigs[0].Count != declared+bare:
				t.Errorf("%q: %v, %v", s, d, e)
			}
		}
	}
	// References of an answer have no lifetimes of their own.
	mustHold(t, file(t, "fn f(x: &i64) -> "+strings.Repeat("& ", 30)+"i64 { }"+end))
	if d := of(t, "fn f(x: &i64) -> "+strings.Repeat("& ", 30)+"i64 { }"+end); d.Sigs[0].Count != 1 {
		t.Errorf("Count %d", d.Sigs[0].Count)
	}
	// All outlive all.
	var ring []string
	for i, name := range names {
		ring = append(ring, name+": "+names[(i+1)%8])
	}
	d, _ := mustHold(t, file(t, "fn f<"+strings.Join(ring, ", ")+">() -> i64 { }"+end))
	if len(d.Sigs[0].Outlives) != 56 {
		t.Errorf("%v", d.Sigs[0].Outlives)
	}
}

// P7.1: types as deep as a file has room for, parameters and fields as many as may be.
func TestGreatFiles(t *testing.T) {
	deepest := strings.Repeat("Box<", api.MaxNest-5) + "&i64" + strings.Repeat(">", api.MaxNest-5)
	d, e := mustHold(t, file(t, "fn f(x: "+deepest+") -> &"+deepest+" { }"+end))
	if e != api.OK || d.Sigs[0].Count != 1 || len(d.Sigs[0].Outlives) != 0 {
		t.Errorf("%s, %v", told(d), e)
	}
	var params, fields []string
	for n := range 8 {
		params = append(params, fmt.Sprintf("p%d: &mut S0", n))
		fields = append(fields, fmt.Sprintf("p%d: Box<S%d>", n, n*4))
	}
	var items []string
	for n := range api.MaxItems {
		items = append(items, fmt.Sprintf("struct S%d { %s }", n, strings.Join(fields, ", ")))
		if n > 0 {
			items = append(items, fmt.Sprintf("fn f%d(%s) -> S%d { let x: Q = 1; }", n, strings.Join(params, ", "), n))
		}
	}
	if d, e := mustHold(t, file(t, strings.Join(items, " ")+end)); e != api.OK || len(d.Structs) != 32 || len(d.Sigs) != 32 {
		t.Errorf("%s, %v", told(d), e)
	}
}

// P7.1: structs one in the other, as many as may be: in a row, in a ring, and of more words than a number holds.
func TestStructsWithin(t *testing.T) {
	for _, last := range []string{"i64", "Box<S0>", "S0", "S20", "S31"} {
		for _, wide := range []int{1, 2, 8} {
			var items []string
			for n := range api.MaxItems {
				var fields []string
				for k := range wide {
					name := fmt.Sprintf("S%d", n+1)
					if n == api.MaxItems-1 {
						name = last
					}
					fields = append(fields, fmt.Sprintf("a%d: %s", k, name))
				}
				items = append(items, fmt.Sprintf("struct S%d { %s }", n, strings.Join(fields, ", ")))
			}
			mustHold(t, file(t, strings.Join(items, " ")+end))
			for i, j := 0, len(items)-1; i < j; i, j = i+1, j-1 {
				items[i], items[j] = items[j], items[i]
			}
			mustHold(t, file(t, end+strings.Join(items, " ")))
		}
	}
}

// P7.1: words: 16 are taken, 17 are not.
func TestWords(t *testing.T) {
	for words := 1; words <= 24; words++ {
		// A struct of one, two or three structs of up to 8 words.
		var structs, fields []string
		for i := 0; i*8 < words; i++ {
			var inner []string
			for k := range min(8, words-i*8) {
				inner = append(inner, fmt.Sprintf("a%d: %s", k, []string{"i64", "bool", "Box<W>"}[k%3]))
			}
			structs = append(structs, fmt.Sprintf("struct S%d { %s }", i, strings.Join(inner, ", ")))
			fields = append(fields, fmt.Sprintf("s%d: S%d", i, i))
		}
		_, e := mustHold(t, file(t, strings.Join(structs, " ")+" struct W { "+strings.Join(fields, ", ")+" }"+end))
		if (e == api.OK) != (words <= api.MaxWords) {
			t.Errorf("%d words: %v", words, e)
		}
	}
}

// P7.1: what is no file, or none that may be.
func TestNoFile(t *testing.T) {
	for _, f := range noFiles(t) {
		if d, at, e := decl.Of(f); e != api.ErrArg || at != 0 || len(d.Structs)+len(d.Sigs) > 0 {
			t.Errorf("%v: %s, %d, %v", f.Nodes, told(d), at, e)
		}
	}
}

// noFiles are trees that are no files, or may not be.
func noFiles(t *testing.T) []api.Tree {
	whole := file(t, "struct S { a: Box<S> } fn f<'a>(x: &'a i64) -> &i64 { return x; }"+end)
	l := []api.Tree{{}, {Nodes: []api.Node{}}, {Nodes: make([]api.Node, api.MaxNodes+1)}}
	for n := 1; n < len(whole.Nodes); n++ {
		s, _ := tree.Sub(whole, n)
		l = append(l, s, api.Tree{Nodes: whole.Nodes[:n]})
	}
	for n := range whole.Nodes {
		for _, change := range []func(x *api.Node){
			func(x *api.Node) { x.At = -1 },
			func(x *api.Node) { x.N += 7 },
			func(x *api.Node) { x.S += "?" },
			func(x *api.Node) { x.L = append([]int{0}, x.L...) },
			func(x *api.Node) { x.L = []int{len(whole.Nodes)} },
			func(x *api.Node) { x.Kind = api.NoNode },
			func(x *api.Node) { x.Kind = 255 },
		} {
			c, _ := tree.Own(whole)
			change(&c.Nodes[n])
			if !tree.May(c) {
				l = append(l, c)
			}
		}
	}
	// Blocks in blocks, one too many.
	deep := api.Tree{Nodes: []api.Node{{Kind: api.NFile, L: []int{1}}, {Kind: api.NFn, S: "main", L: []int{2, 3}}, {Kind: api.NTyInt}}}
	for n := 3; n < api.MaxNest+1; n++ {
		deep.Nodes = append(deep.Nodes, api.Node{Kind: api.NBlock, L: []int{n + 1}})
	}
	if _, _, e := decl.Of(api.Tree{Nodes: append(deep.Nodes[:api.MaxNest:api.MaxNest], api.Node{Kind: api.NBlock})}); e != api.OK {
		t.Errorf("as deep as may be: %v", e)
	}
	deep.Nodes = append(deep.Nodes, api.Node{Kind: api.NBlock})
	return append(l, deep)
}

// P7.1: all signatures of up to two parameters of up to two layers.
func TestSmallSignatures(t *testing.T) {
	layers := []string{"&", "&'a ", "&mut ", "&'b ", "Box<"}
	small := []string{"i64"}
	for _, a := range layers {
		small = append(small, closedBox(a+"i64"))
	}
	great := small[:len(small):len(small)]
	for _, a := range layers {
		for _, x := range small[1:] {
			great = append(great, closedBox(a+strings.ReplaceAll(" "+x, ">", "")))
		}
	}
	well := 0
	for _, lives := range []string{"", "<'a>", "<'a, 'b>", "<'b: 'a, 'a>", "<'a: 'b + 'a, 'b: 'a>", "<'b, 'a: 'b>"} {
		for _, answer := range great {
			for _, first := range great {
				for _, params := range []string{"", "x: " + first, "x: " + first + ", y: &'b i64", "y: &mut i64, x: " + first, "x: " + first + ", y: & &'a i64"} {
					if params == "" && first != "i64" {
						continue
					}
					if _, e := mustHold(t, file(t, "fn f"+lives+"("+params+") -> "+answer+" { }"+end)); e == api.OK {
						well++
					}
				}
			}
		}
	}
	if well < 1000 {
		t.Errorf("only %d are taken", well)
	}
}

// closedBox closes what is open in a type's text.
func closedBox(s string) string {
	return s + strings.Repeat(">", strings.Count(s, "<"))
}

// P7.1: files by chance, of all errors and of none.
func TestFilesByChance(t *testing.T) {
	c := byChance(71)
	met := map[api.Errno]int{}
	for range 6000 {
		_, e := mustHold(t, file(t, c.fileText()))
		met[e]++
	}
	for _, e := range []api.Errno{api.OK, api.ErrTwice, api.ErrName, api.ErrFieldRef, api.ErrEndless, api.ErrLarge, api.ErrElide, api.ErrLong, api.ErrMain} {
		if met[e] < 20 {
			t.Errorf("error %d: met %d times", e, met[e])
		}
	}
}

// P7.1: where nodes stand in the text is of no moment.
func TestPlacesAreOfNoMoment(t *testing.T) {
	f := file(t, "struct S { a: Box<S> } fn f<'a>(x: &'a S, y: & &i64) -> &'a i64 { return x; }"+end)
	want := of(t, "struct S { a: Box<S> } fn f<'a>(x: &'a S, y: & &i64) -> &'a i64 { return x; }"+end)
	for n := range f.Nodes {
		f.Nodes[n].At = 1000 - n*n
		if f.Nodes[n].At < 0 {
			f.Nodes[n].At = 3
		}
	}
	if d, _, e := decl.Of(f); e != api.OK || told(d) != told(want) {
		t.Errorf("%s, %v", told(d), e)
	}
}
