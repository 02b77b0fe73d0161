package typing_test

import (
	"reflect"
	"strings"
	"testing"

	"loanword/api"
	"loanword/typing"
)

// P8.3: which expressions are places, what they go through, which of them are moved.
func TestPlaces(t *testing.T) {
	for s, want := range map[string]string{
		"let x = @i;":                    "place",
		"let x = @1;":                    "",
		"let x = @box(1);":               "",
		"let x = @&i;":                   "",
		"let x = &@i;":                   "place",
		"let x = @one();":                "",
		"let x = @p;":                    "place moved",
		"let x = &@p;":                   "place",
		"let x = @p.a;":                  "place",
		"let x = @@p.a;":                 "place",
		"let x = @p.b;":                  "place moved",
		"let x = @@p.b;":                 "place",
		"let x = @b;":                    "place moved",
		"let x = @*b;":                   "place",
		"let x = *@b;":                   "place",
		"let x = @*d;":                   "place moved",
		"let x = @**d;":                  "place",
		"let x = @r;":                    "place",
		"let x = @m;":                    "place moved",
		"let x = &@*r;":                  "place reference shared",
		"let x = &@*m;":                  "place reference",
		"let x = @(*r).a;":               "place reference shared",
		"let x = @(*m).a;":               "place reference",
		"let x = (@*m).a;":               "place reference",
		"let x = (*@m).a;":               "place",
		"let x = @*(*m).b;":              "place reference",
		"let x = *(*@m).b;":              "place",
		"let x = @*s;":                   "place reference shared",
		"let x = &@**s;":                 "place reference shared",
		"let n = &m; let x = &@**n;":     "place reference shared",
		"let n = &m; let x = &*@*n;":     "place reference shared",
		"let n = &mut r; let x = &@**n;": "place reference shared",
		"let n = &mut r; let x = @*n;":   "place reference",
		"let n = &mut m; let x = &@**n;": "place reference",
		"let n = box(r); let x = @*n;":   "place",
		"let n = box(m); let x = @*n;":   "place moved",
		"let n = box(m); let x = &@**n;": "place reference",
		"let n = box(r); let x = &@**n;": "place reference shared",

		"@@p = p;":                     "place",
		"p = @p;":                      "place moved",
		"@@*m = p;":                    "place reference",
		"*@m = p;":                     "place",
		"*m = @p;":                     "place moved",
		"@@p.b = b;":                   "place",
		"p.b = @b;":                    "place moved",
		"i = @i;":                      "place",
		"return @i;":                   "place",
		"print(@i);":                   "place",
		"print(-@i);":                  "place",
		"if @t { }":                    "place",
		"while @t { }":                 "place",
		"let x: P = @p;":               "place moved",
		"let x = box(@p);":             "place moved",
		"let x = P { a: 1, b: @b };":   "place moved",
		"let x = P { a: @i, b: p.b };": "place",
		"let x = P { @a: i, b: p.b };": "",
		"ref(r, @m);":                  "place moved",
		"ref(@r, m);":                  "place",
		"let x = @@i + 1;":             "place",
		"let x = @i + 1;":              "",
		"let x = !@t;":                 "place",
		"let x = @!t;":                 "",
		"@let x = b;":                  "",
		"let x: @i64 = i;":             "",
		"{ let y = @b; }":              "place moved",
		"loop { print(*@b); }":         "place",
	} {
		f, n := marked(t, inMain(some+s))
		x, _, e := typing.Of(f)
		if e != api.OK {
			t.Fatalf("%q: %v", s, e)
		}
		var l []string
		if typing.Place(x, n) {
			l = append(l, "place")
		}
		reference, shared := typing.Through(x, n)
		if reference {
			l = append(l, "reference")
		}
		if shared {
			l = append(l, "shared")
		}
		if typing.Moves(x, n) {
			l = append(l, "moved")
		}
		if got := strings.Join(l, " "); got != want {
			t.Errorf("%q: %q; want %q", s, got, want)
		}
	}
}

// P8.3: who returns and who prints asks for a value: a box that is returned is moved.
func TestMovedByReturn(t *testing.T) {
	f, n := marked(t, "fn f(x: Box<i64>) -> Box<i64> { return @x; } fn main() -> i64 { return 0; }")
	x, _, _ := typing.Of(f)
	if !typing.Moves(x, n) {
		t.Error("it is moved")
	}
}

// P8.4: what is in scope, and in which function a node is.
func TestScope(t *testing.T) {
	const end = " fn main() -> i64 { return 0; }"
	for s, want := range map[string][]int{
		"fn f(x: i64, y: i64) -> i64 { @return 0; }":                                           {0, 1},
		"fn f(x: i64, y: i64) -> i64 { return @0; }":                                           {0, 1},
		"fn f() -> i64 { @return 0; }":                                                         {},
		"fn f(x: i64) -> i64 { @let x = x; return 0; }":                                        {0},
		"fn f(x: i64) -> i64 { let x = @x; return 0; }":                                        {0},
		"fn f(x: i64) -> i64 { let x: @i64 = x; return 0; }":                                   {0},
		"fn f(x: i64) -> i64 { let x = x; @return 0; }":                                        {0, 1},
		"fn f(x: i64) -> i64 { let x = x; let x = x; print(@x); }":                             {0, 1, 2},
		"fn f(x: i64) -> i64 { let x: i64; let z: @i64; }":                                     {0, 1},
		"fn f() -> i64 { let x = 1; { let y = 2; let z = @y; } let w = 3; }":                   {0, 1},
		"fn f() -> i64 { let x = 1; { let y = 2; let z = y; } let w = @3; }":                   {0},
		"fn f() -> i64 { let x = 1; { let y = 2; let z = y; } let w = 3; @{ } }":               {0, 3},
		"fn f() -> i64 { let x = 1; @{ let y = 2; } }":                                         {0},
		"fn f() -> i64 { if true { let y = 2; } else @{ let z = 3; } }":                        {},
		"fn f() -> i64 { if true { let y = 2; } else { let z = 3; @return z; } }":              {1},
		"fn f() -> i64 { let x = true; while @x { let y = 2; } }":                              {0},
		"fn f() -> i64 { let x = true; while x { let y = 2; @break; } }":                       {0, 1},
		"fn f() -> i64 { loop { let y = 2; } @return 0; }":                                     {},
		"fn f() -> i64 { { let x = 1; } { let x = 1; } let x = 1; { let x = 1; @return x; } }": {2, 3},
		"fn f() -> i64 { loop { { let x = 1; } { let x = 1; } let x = 1; loop { @break; } } }": {2},
	} {
		f, n := marked(t, s+end)
		x, _, e := typing.Of(f)
		if e != api.OK {
			t.Fatalf("%q: %v", s, e)
		}
		l, e := typing.Scope(x, n)
		if e != api.OK || len(l)+len(want) > 0 && !reflect.DeepEqual(l, want) {
			t.Errorf("%q: %v, %v; want %v", s, l, e, want)
		}
		mustAsk(t, x)
	}
	for s, want := range map[string]int{
		"@struct S { a: i64 } fn f() -> i64 { return 0; }":         -1,
		"struct S { a: @i64 } fn f() -> i64 { return 0; }":         -1,
		"struct S { a: i64 } @fn f() -> i64 { return 0; }":         0,
		"fn f(@x: i64) -> i64 { return 0; }":                       0,
		"fn f<@'a>() -> i64 { return 0; }":                         0,
		"fn f(x: @i64) -> i64 { return 0; }":                       0,
		"fn f() -> @i64 { return 0; }":                             0,
		"fn f() -> i64 @{ return 0; }":                             0,
		"fn f() -> i64 { return 0; } fn g() -> i64 @{ return 0; }": 1,
		"fn f() -> i64 { return 0; } @struct S { a: i64 }":         -1,
	} {
		f, n := marked(t, s+end)
		x, _, _ := typing.Of(f)
		if l, e := typing.Scope(x, n); e != api.ErrArg || len(l) > 0 {
			t.Errorf("%q: %v, %v", s, l, e)
		}
		fn, e := typing.Fn(x, n)
		if want >= 0 && (fn != want || e != api.OK) || want < 0 && (fn != 0 || e != api.ErrArg) {
			t.Errorf("%q: %d, %v; want %d", s, fn, e, want)
		}
	}
	x := of(t, greatText())
	for _, n := range []int{-1, 0, len(x.Tree.Nodes), 1 << 62, -1 << 62} {
		if fn, e := typing.Fn(x, n); fn != 0 || e != api.ErrArg {
			t.Errorf("Fn of %d: %d, %v", n, fn, e)
		}
		if l, e := typing.Scope(x, n); len(l) > 0 || e != api.ErrArg {
			t.Errorf("Scope of %d: %v, %v", n, l, e)
		}
	}
}

// P8.3, P8.4: each node of files by chance, held against what is said of it.
func TestAskedByChance(t *testing.T) {
	mustAsk(t, of(t, greatText()))
	for _, x := range wellFiles(t, 83, 120) {
		if len(x.Tree.Nodes) < 160 {
			mustAsk(t, x)
		}
	}
}
