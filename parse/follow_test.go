package parse_test

import (
	"math/rand"
	"reflect"
	"strings"
	"testing"

	"loanword/api"
	"loanword/lex"
	"loanword/parse"
	"loanword/print"
	"loanword/tree"
)

// P4.3: what a tree is written as is taken as that tree; and what is taken is, written again by the tests' writer, taken as the same.
func TestThereAndBack(t *testing.T) {
	c := chance{rand.New(rand.NewSource(9))}
	for i := range 1500 {
		x := c.file(i % 6)
		a, _, e := parse.File(mustRead(t, x, c.gap))
		if e != api.OK {
			continue
		}
		b, _, e := parse.File(mustRead(t, knotOf(a, 0), c.gap))
		if e != api.OK || !tree.Same(a, b) {
			t.Fatalf("%v, then %v (%v)", a, b, e)
		}
	}
}

// prints: what tells the trees of each part.
var prints = map[string]func(api.Tree) (string, api.Errno){"FILE": print.File, "E": print.Expr, "TYPE": print.Type}

// mustPrint asks that what is taken is told by print as a text that is taken as the same tree; it answers that text, which may be too long to be told.
func mustPrint(t *testing.T, part, s string) (string, api.Errno) {
	t.Helper()
	a, at, e := parts[part](s)
	if e != api.OK {
		t.Fatalf("%.200q: at %d, %v", s, at, e)
	}
	text, e := prints[part](a)
	if e == api.ErrLong {
		return text, e
	}
	b, at, f := parts[part](text)
	if e != api.OK || f != api.OK || !tree.Same(a, b) {
		t.Fatalf("%.200q is told as %.200q, %v, and that is %v, at %d, %v", s, text, e, b, at, f)
	}
	return text, e
}

// P4.3: of each part, whatever blanks, comments and brackets stand in the text.
func TestPrinted(t *testing.T) {
	c := chance{rand.New(rand.NewSource(13))}
	for i := range 3000 {
		var x *knot
		switch i % 3 {
		case 0:
			x = c.file(i % 5)
		case 1:
			x = c.expression(i % 5)
		case 2:
			x = c.typeOf(i % 40)
		}
		s := mustRead(t, x, c.gap)
		if _, e := mustPrint(t, partOf(x), s); e != api.OK {
			t.Fatalf("%q: %v", s, e)
		}
	}
}

// P4.3: a text that is taken may be told as one that is too long; the longest one that is not is taken again.
func TestPrintedTooLong(t *testing.T) {
	const deep = 44
	text := func(calls int) string {
		return "fn f()->i64" + strings.Repeat("{", deep) + strings.Repeat("f();", calls) + strings.Repeat("}", deep)
	}
	line := 4*deep + len("f();") + 1
	rest := len("fn f() -> i64 ") + deep*(deep-1)/2*4*2 + deep*2*2
	most := (api.MaxSource - rest) / line
	if s, e := mustPrint(t, "FILE", text(most)); e != api.OK || len(s) != rest+most*line {
		t.Errorf("%d calls: %d bytes, %v; want %d", most, len(s), e, rest+most*line)
	}
	if s, e := mustPrint(t, "FILE", text(most+1)); e != api.ErrLong || s != "" {
		t.Errorf("%d calls: %d bytes, %v", most+1, len(s), e)
	}
	for long, want := range map[int]api.Errno{13: api.OK, 14: api.ErrLong} {
		e := strings.Repeat("x", long)
		for range 4 {
			e = "f(" + times(8, e, ",") + ")"
		}
		if s, got := mustPrint(t, "E", e); got != want || want == api.ErrLong && s != "" {
			t.Errorf("names of %d bytes: %d bytes, %v", long, len(s), got)
		}
	}
}

// knotOf is the node n of a tree and all below it, with no brackets but those that must be.
func knotOf(t api.Tree, n int) *knot {
	x := &knot{n: t.Nodes[n]}
	for _, c := range t.Nodes[n].L {
		x.kids = append(x.kids, knotOf(t, c))
	}
	return x
}

// P4.4: blanks and comments change nothing but places, of texts that are taken and of texts that stop.
func TestBlanks(t *testing.T) {
	c := chance{rand.New(rand.NewSource(10))}
	for i := range 1500 {
		w := newWriter(blank)
		w.write(c.file(i % 4))
		l, _, e := lex.Lex(w.text.String())
		if e != api.OK || len(l) == 0 {
			continue
		}
		if i%2 == 1 {
			strange, _ := spelt(c.one(allTokens...))
			strangers, _, _ := lex.Lex(strange)
			l[c.Intn(len(l))] = strangers[0]
		}
		mustBlank(t, c, l)
	}
}

func mustBlank(t *testing.T, c chance, l []api.Token) {
	t.Helper()
	plain, _ := lex.Join(l...)
	var s strings.Builder
	var moved = map[int]int{}
	at := 0
	for _, token := range l {
		text, _ := lex.Text(token)
		s.WriteString(c.one(" ", "\n", " //x\n\t"))
		moved[at] = s.Len()
		s.WriteString(text)
		at += len(text) + 1
	}
	moved[len(plain)] = s.Len()
	a, atA, eA := parse.File(plain)
	b, atB, eB := parse.File(s.String())
	if eA != eB || !reflect.DeepEqual(shape(a), shape(b)) {
		t.Fatalf("%q and %q: %v, %v", plain, s.String(), eA, eB)
	}
	if eA != api.OK && atB != moved[atA] {
		t.Fatalf("%q: at %d; %q: at %d, not at %d", plain, atA, s.String(), atB, moved[atA])
	}
	for i, n := range a.Nodes {
		if b.Nodes[i].At != moved[n.At] {
			t.Fatalf("%q and %q: node %d at %d and %d", plain, s.String(), i, n.At, b.Nodes[i].At)
		}
	}
}

// shape is a tree without places.
func shape(x api.Tree) []api.Node {
	var l []api.Node
	for _, n := range x.Nodes {
		n.At = 0
		l = append(l, n)
	}
	return l
}

func mustBeSame(t *testing.T, a, b string) {
	t.Helper()
	x, _, e := parse.Expr(a)
	y, _, f := parse.Expr(b)
	if e != api.OK || f != api.OK || !tree.Same(x, y) {
		t.Errorf("%q: %v, %v; %q: %v, %v", a, x, e, b, y, f)
	}
}

// P4.5: signs go by their levels, of one level the left one first; of those that compare there is just one.
func TestLevels(t *testing.T) {
	for _, first := range signs {
		for _, second := range signs {
			s := "a " + first + " b " + second + " c"
			switch l, m := levels[first], levels[second]; {
			case l == 3 && m == 3:
				mustStop(t, "E", s, 5+len(first), api.ErrSyntax)
			case l < m:
				mustBeSame(t, s, "a "+first+" (b "+second+" c)")
			default:
				mustBeSame(t, s, "(a "+first+" b) "+second+" c")
			}
		}
	}
	mustBeSame(t, "a + b * c", "a + (b * c)")
	mustBeSame(t, "-a * !b - & c.f == *d % & mut e.f.g && f || g", "(((((-a) * (!b)) - (&(c.f))) == ((*d) % (&mut((e.f).g)))) && f) || g")
	mustBeSame(t, "a || b && c == d + e * -f.g", "a || (b && (c == (d + (e * (-(f.g))))))")
	mustBeSame(t, "- - ! * & & mut x", "-(-(!(*(&(&mut x)))))")
	mustBeSame(t, "(a < b) < c", "((a) < (b)) < c")
}

// P4.5: brackets around what has its level anyway change nothing but places.
func TestMoreBrackets(t *testing.T) {
	c := chance{rand.New(rand.NewSource(11))}
	for i := range 1500 {
		x := c.expression(1 + i%6)
		a := writtenWith(x, func(*knot) int { return 0 })
		b := writtenWith(x, func(*knot) int { return c.Intn(3) })
		mustBeSame(t, a, b)
	}
}

// writtenWith is the text of an expression with so many brackets more around each E in it.
func writtenWith(x *knot, brackets func(*knot) int) string {
	var set func(*knot)
	set = func(x *knot) {
		x.brackets = brackets(x)
		for _, kid := range x.kids {
			set(kid)
		}
	}
	set(x)
	w := newWriter(blank)
	w.write(x)
	return w.text.String()
}

// P4.6: two files' texts, one behind the other, are the items of both.
func TestTwoFiles(t *testing.T) {
	c := chance{rand.New(rand.NewSource(12))}
	for i := range 1500 {
		x, y := c.file(i%5), c.file(i%4)
		a, b := mustRead(t, x, c.gap), mustRead(t, y, c.gap)
		if c.Intn(3) == 0 {
			a += "// ends with the text"
		}
		both := &knot{n: api.Node{Kind: api.NFile}}
		both.kids = append(append(both.kids, x.kids...), moved(y, len(a)+1).kids...)
		if len(both.kids) > 0 {
			both.n.At = both.kids[0].n.At
		}
		got, at, e := parse.File(a + "\n" + b)
		if want := flat(both); e == api.OK && (at != 0 || !reflect.DeepEqual(got, want)) {
			t.Fatalf("%q, %q: %v, at %d, not %v", a, b, got, at, want)
		}
		_, _, e1 := parse.File(a)
		_, _, e2 := parse.File(b)
		if e != api.OK && e1 == api.OK && e2 == api.OK && len(flat(both).Nodes) <= api.MaxNodes && len(a)+len(b) < api.MaxSource {
			t.Fatalf("%q, %q: at %d, %v", a, b, at, e)
		}
	}
}

// moved gives all nodes of a knot a place so much farther on.
func moved(x *knot, by int) *knot {
	x.n.At += by
	for _, kid := range x.kids {
		moved(kid, by)
	}
	return x
}

// P4.6, of files that stop: the first one's fault stays, the second one's is so much farther on.
func TestTwoFilesStop(t *testing.T) {
	const good = "struct S { f: i64 }"
	const bad = "fn f() { }"
	mustStop(t, "FILE", bad+"\n"+good, 7, api.ErrSyntax)
	mustStop(t, "FILE", good+"\n"+bad, len(good)+8, api.ErrSyntax)
}
