package print_test

import (
	"reflect"
	"strings"
	"testing"
	"unsafe"

	"loanword/api"
	"loanword/print"
	"loanword/tree"
)

// told is what print says of a tree, by its root: a file's text without its last byte 10, lines with a byte 10 between each two, an expression, a type.
func told(t api.Tree) (string, api.Errno) {
	switch kind := t.Nodes[0].Kind; {
	case kind == api.NFile:
		s, e := print.File(t)
		return strings.TrimSuffix(s, "\n"), e
	case kind >= api.NInt:
		return print.Expr(t)
	case kind >= api.NTyInt && kind <= api.NTyName:
		return print.Type(t)
	}
	l, e := print.Lines(t)
	return strings.Join(l, "\n"), e
}

func mustTell(t *testing.T, x *knot, want string) {
	t.Helper()
	if !tree.May(flat(x)) {
		t.Fatalf("a tree that may not be, for %q", want)
	}
	if s, e := told(flat(x)); e != api.OK || s != want {
		t.Errorf("%q, %v; want %q", s, e, want)
	}
}

// P5.1, P5.2: the chapter's examples.
func TestExamples(t *testing.T) {
	one, two, three := k(api.NInt, "", 1), k(api.NInt, "", 2), k(api.NInt, "", 3)
	x := v("x")
	mustTell(t, bin("-", one, bin("-", two, three)), "1 - (2 - 3)")
	mustTell(t, bin("-", bin("-", one, two), three), "1 - 2 - 3")
	mustTell(t, bin("==", bin("==", v("a"), v("b")), v("c")), "(a == b) == c")
	mustTell(t, k(api.NRef, "", 0, k(api.NRef, "", 0, x)), "& &x")
	mustTell(t, k(api.NRef, "", 1, k(api.NDeref, "", 0, x)), "&mut *x")
	mustTell(t, k(api.NDot, "f", 0, k(api.NDeref, "", 0, x)), "(*x).f")
	mustTell(t, k(api.NDeref, "", 0, k(api.NDot, "f", 0, x)), "*x.f")
	mustTell(t, k(api.NNeg, "", 0, k(api.NNeg, "", 0, k(api.NInt, "", 5))), "--5")
	mustTell(t, k(api.NTyRef, "", 0, k(api.NTyRef, "a", 1, k(api.NTyBox, "", 0, aType))), "& &'a mut Box<i64>")
	chain := k(api.NIf, "", 1, v("c"), block(aBreak), k(api.NIf, "", 0, v("d"), block()))
	got, e := print.Lines(flat(chain))
	if want := []string{"if c {", "    break;", "} else if d {", "}"}; e != api.OK || !reflect.DeepEqual(got, want) {
		t.Errorf("%q, %v; want %q", got, e, want)
	}
}

// P5.1: expressions and types, each kind.
func TestForms(t *testing.T) {
	x, y := v("x"), v("y")
	ref := func(n int64, e *knot) *knot { return k(api.NRef, "", n, e) }
	mustTell(t, k(api.NInt, "", 0), "0")
	mustTell(t, k(api.NInt, "", 1<<63-1), "9223372036854775807")
	mustTell(t, k(api.NBool, "", 0), "false")
	mustTell(t, k(api.NBool, "", 1), "true")
	mustTell(t, v(strings.Repeat("z", 32)), strings.Repeat("z", 32))
	mustTell(t, k(api.NRead, "", 0), "read()")
	mustTell(t, k(api.NBox, "", 0, bin("||", x, y)), "box(x || y)")
	mustTell(t, k(api.NCall, "f", 0), "f()")
	mustTell(t, k(api.NCall, "f", 0, bin("||", x, y), ref(0, x), ref(1, y)), "f(x || y, &x, &mut y)")
	mustTell(t, k(api.NMake, "S", 0, k(api.NInit, "f", 0, bin("||", x, y)), k(api.NInit, "g", 0, ref(0, ref(1, ref(0, x))))), "S { f: x || y, g: & &mut &x }")
	mustTell(t, bin("&&", ref(0, x), ref(0, ref(0, y))), "&x && & &y")
	mustTell(t, ref(0, bin("&&", ref(0, x), y)), "&(&x && y)")
	mustTell(t, ref(0, k(api.NDot, "f", 0, ref(0, x))), "&(&x).f")
	mustTell(t, k(api.NDot, "g", 0, k(api.NDot, "f", 0, bin("+", x, y))), "(x + y).f.g")
	mustTell(t, k(api.NDot, "f", 0, k(api.NInt, "", 1)), "1.f")
	mustTell(t, k(api.NNot, "", 0, k(api.NNeg, "", 0, k(api.NDeref, "", 0, ref(0, x)))), "!-*&x")
	mustTell(t, bin("-", k(api.NNeg, "", 0, x), k(api.NNeg, "", 0, y)), "-x - -y")

	tyRef := func(life string, n int64, x *knot) *knot { return k(api.NTyRef, life, n, x) }
	s := k(api.NTyName, "S", 0)
	mustTell(t, k(api.NTyBool, "", 0), "bool")
	mustTell(t, s, "S")
	mustTell(t, tyRef("", 0, s), "&S")
	mustTell(t, tyRef("", 1, s), "&mut S")
	mustTell(t, tyRef("a", 0, s), "&'a S")
	mustTell(t, tyRef("a", 1, s), "&'a mut S")
	mustTell(t, tyRef("", 1, tyRef("", 0, tyRef("b", 0, tyRef("", 0, aType)))), "&mut & &'b &i64")
	mustTell(t, k(api.NTyBox, "", 0, k(api.NTyBox, "", 0, tyRef("", 0, tyRef("", 1, s)))), "Box<Box<& &mut S>>")
}

// P5.1: each sign, within each other one, on both sides.
func TestSigns(t *testing.T) {
	for _, outer := range signs {
		for _, inner := range signs {
			in := bin(inner, v("a"), v("b"))
			l, m := signLevels[outer], signLevels[inner]
			left, right := "a "+inner+" b", "a "+inner+" b"
			if m < l || m == 3 && l == 3 {
				left = "(" + left + ")"
			}
			if m <= l {
				right = "(" + right + ")"
			}
			mustTell(t, bin(outer, in, v("c")), left+" "+outer+" c")
			mustTell(t, bin(outer, v("c"), in), "c "+outer+" "+right)
		}
	}
}

// everyStatement has each statement in it.
func everyStatement() *knot {
	call := k(api.NExpr, "", 0, k(api.NCall, "f", 0, v("a")))
	inner := k(api.NIf, "", 1, v("a"), block(), k(api.NIf, "", 1, v("b"), block(call), block(block(), k(api.NContinue, "", 0))))
	return block(
		k(api.NLet, "x", 1, aType),
		k(api.NLet, "x", 2, v("a")),
		k(api.NLet, "x", 3, aType, v("a")),
		k(api.NAssign, "", 0, bin("||", v("a"), v("b")), bin("||", v("a"), v("b"))),
		inner,
		k(api.NWhile, "", 0, k(api.NMake, "S", 0, k(api.NInit, "f", 0, v("a"))), block(k(api.NLoop, "", 0, block(aBreak)))),
		k(api.NReturn, "", 0, v("a")),
		k(api.NPrint, "", 0, v("a")),
	)
}

const everyText = `{
    let x: i64;
    let x = a;
    let x: i64 = a;
    a || b = a || b;
    if a {
    } else if b {
        f(a);
    } else {
        {
        }
        continue;
    }
    while S { f: a } {
        loop {
            break;
        }
    }
    return a;
    print(a);
}`

// P5.1, P5.2: a file with each statement, items with and without what they may have.
func TestLines(t *testing.T) {
	life := func(name string, bounds ...string) *knot {
		x := k(api.NLife, name, 0)
		for _, b := range bounds {
			x.kids = append(x.kids, k(api.NBound, b, 0))
		}
		return x
	}
	field := func(kind api.NodeKind, name string) *knot { return k(kind, name, 0, aType) }
	one := k(api.NStruct, "S", 0, field(api.NField, "f"))
	two := k(api.NStruct, "T", 0, field(api.NField, "f"), field(api.NField, "g"))
	long := k(api.NFn, "f", 3, life("a"), life("b", "a"), life("c", "a", "b"), field(api.NParam, "x"), field(api.NParam, "y"), k(api.NTyBool, "", 0), everyStatement())
	short := k(api.NFn, "g", 0, aType, block())
	mustTell(t, everyStatement(), everyText)
	mustTell(t, one, "struct S { f: i64 }")
	mustTell(t, two, "struct T { f: i64, g: i64 }")
	mustTell(t, short, "fn g() -> i64 {\n}")
	head := "fn f<'a, 'b: 'a, 'c: 'a + 'b>(x: i64, y: i64) -> bool "
	mustTell(t, long, head+everyText)
	want := "struct S { f: i64 }\n" + head + everyText + "\nstruct T { f: i64, g: i64 }\nfn g() -> i64 {\n}\nfn g() -> i64 {\n}\n"
	if s, e := print.File(flat(k(api.NFile, "", 0, one, long, two, short, short))); e != api.OK || s != want {
		t.Errorf("%s, %v; want %s", s, e, want)
	}
}

// P5.1, P5.2: a file without items is the empty text, and no line.
func TestNothing(t *testing.T) {
	nothing := flat(k(api.NFile, "", 0))
	if s, e := print.File(nothing); s != "" || e != api.OK {
		t.Errorf("%q, %v", s, e)
	}
	if l, e := print.Lines(nothing); len(l) != 0 || e != api.OK {
		t.Errorf("%q, %v", l, e)
	}
}

// P5.1, P5.2: whatever tree is told as the chapter's table has it; its places count for nothing.
func TestByTable(t *testing.T) {
	c := byChance(51)
	for i := range 20000 {
		x := c.any(i % 6)
		for _, one := range below(x) {
			one.n.At = c.Intn(3) * 1000
		}
		got, e := told(flat(x))
		if want := plainText(x); len(want) < api.MaxSource && (e != api.OK || got != want) {
			t.Fatalf("%q, %v; want %q", got, e, want)
		}
	}
}

// P5.2: each expression node has its level, others have none.
func TestLevel(t *testing.T) {
	c := byChance(52)
	for i := range 2000 {
		x := c.any(i % 5)
		f := flat(x)
		for n, node := range f.Nodes {
			want, wantE := plainLevel(node), api.OK
			if node.Kind < api.NInt || node.Kind == api.NInit {
				want, wantE = 0, api.ErrArg
			}
			if got, e := print.Level(f, n); got != want || e != wantE {
				t.Fatalf("node %d of %v: %d, %v; want %d, %v", n, f.Nodes, got, e, want, wantE)
			}
		}
		for _, n := range []int{-1, -1 << 63, len(f.Nodes), 1<<63 - 1} {
			if got, e := print.Level(f, n); got != 0 || e != api.ErrArg {
				t.Fatalf("node %d of %d: %d, %v", n, len(f.Nodes), got, e)
			}
		}
	}
}

// Rule 4: what is handed in stays as it is; no answer has its memory, nor another answer's.
func TestOwn(t *testing.T) {
	c := byChance(53)
	for i := range 1000 {
		x := c.any(i % 4)
		f := flat(x)
		first, e := print.Lines(f)
		for at := range first {
			first[at] = ""
		}
		if second, _ := print.Lines(f); e == api.OK && strings.Join(second, "\n") != plainText(x) {
			t.Fatalf("%q: the lines of two calls share memory", second)
		}
		told(f)
		print.Level(f, 0)
		if !reflect.DeepEqual(f, flat(x)) {
			t.Fatalf("%q was changed", plainText(x))
		}
	}
	name, typeName := flat(v("name")), flat(k(api.NTyName, "Name", 0))
	s, _ := print.Expr(name)
	r, _ := print.Type(typeName)
	if unsafe.StringData(s) == unsafe.StringData(name.Nodes[0].S) || unsafe.StringData(r) == unsafe.StringData(typeName.Nodes[0].S) {
		t.Error("a text has the memory of the tree that was handed in")
	}
}
