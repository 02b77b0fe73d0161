package print_test

import (
	"strings"
	"testing"

	"loanword/api"
	"loanword/parse"
	"loanword/print"
	"loanword/tree"
)

// parsed is the tree of what told says of a tree: what stands in no file by itself is read within one.
func parsed(root api.NodeKind, s string) (api.Tree, api.Errno) {
	const head = "fn f() -> i64 {\n"
	within, at := s, 0
	switch {
	case root >= api.NInt:
		f, _, e := parse.Expr(s)
		return f, e
	case root >= api.NTyInt && root <= api.NTyName:
		f, _, e := parse.Type(s)
		return f, e
	case root == api.NStruct || root == api.NFn:
		at = 1
	case root != api.NFile:
		within, at = head+s+"}", 4
	}
	f, _, e := parse.File(within)
	if e != api.OK || at == 0 {
		return f, e
	}
	return tree.Sub(f, at)
}

// mustComeBack asks for the tree that a text was told of.
func mustComeBack(t *testing.T, f api.Tree, s string) {
	t.Helper()
	if back, e := parsed(f.Nodes[0].Kind, s); e != api.OK || !tree.Same(f, back) {
		t.Fatalf("%v: %q is %v, %v", f.Nodes, s, back.Nodes, e)
	}
}

// P5.3, P0.8: what any tree is told as parses to that tree.
func TestThereAndBack(t *testing.T) {
	c := byChance(54)
	for i := range 12000 {
		f := flat(c.any(i % 7))
		s, e := told(f)
		if e != api.OK {
			continue
		}
		mustComeBack(t, f, s)
	}
}

// P5.3: a file's text is its lines, each with a byte 10.
func TestFileIsLines(t *testing.T) {
	c := byChance(55)
	for i := range 2000 {
		f := flat(c.file(i % 7))
		l, linesE := print.Lines(f)
		s, e := print.File(f)
		want := ""
		for _, line := range l {
			if strings.Contains(line, "\n") {
				t.Fatalf("%q is more than a line", line)
			}
			want += line + "\n"
		}
		if e != linesE || s != want {
			t.Fatalf("%q, %v; of lines %q, %v", s, e, want, linesE)
		}
	}
}

// P0.8: what parses is told as a text that parses to the same, and that is told as itself.
func TestTextsComeBack(t *testing.T) {
	for _, s := range []string{
		"", " // nothing\n",
		"fn main() -> i64 { let x = 1; let r = &x; print(*r); return x; }",
		"fn main() -> i64 { let x = 1; let r = &mut x; x = 2; *r = 3; return x; }",
		"fn main()->i64{let b=box(1);let r=& *b;b=box(2);return*r;}",
		"fn f<'a>(x: &'a i64, y: &i64) -> &'a i64 { return y; }",
		"fn f<'a,'b:'a>(x:&'a i64,y:&'b i64)->&'a i64{return(y);}",
		"fn f() -> i64 { while c { let y = 1; r = &y; } return *r; }",
		"fn f() -> i64 { let x = read() / 0; loop { let b = box(((1))); } }",
		"struct S{f:Box<S>,g:bool}fn f(s:S)->S{if(s.g){{}}else if!s.g{f(s);}else{f(S{f:box(s),g:1<2});}(s).g=(1-(2))-3==4;return s;}",
		"fn f(x: & & mut & 'a i64) -> Box<Box<& &i64>> { let y: & &'a mut & & S = & & & mut - - x; }",
	} {
		f, at, e := parse.File(s)
		if e != api.OK {
			t.Fatalf("%q: at %d, %v", s, at, e)
		}
		text, e := print.File(f)
		if e != api.OK {
			t.Fatalf("%q: %v", s, e)
		}
		mustComeBack(t, f, text)
		again, _, _ := parse.File(text)
		if same, e := print.File(again); e != api.OK || same != text {
			t.Errorf("%q, then %q, %v", text, same, e)
		}
	}
}

// allExpressions are all expressions of so many nodes (an NInit not counted), of a few names and of signs of each level.
func allExpressions(upTo int) [][]*knot {
	all := [][]*knot{nil}
	for count := 1; count <= upTo; count++ {
		var l []*knot
		if count == 1 {
			l = append(l, v("x"), k(api.NInt, "", 1), k(api.NCall, "f", 0))
		}
		for _, x := range all[count-1] {
			l = append(l, k(api.NDot, "f", 0, x), k(api.NDeref, "", 0, x), k(api.NRef, "", 0, x), k(api.NRef, "", 1, x), k(api.NNeg, "", 0, x), k(api.NNot, "", 0, x),
				k(api.NCall, "f", 0, x), k(api.NBox, "", 0, x), k(api.NMake, "S", 0, k(api.NInit, "f", 0, x)))
		}
		for left := 1; left < count-1; left++ {
			for _, x := range all[left] {
				for _, y := range all[count-1-left] {
					for _, sign := range []string{"||", "&&", "==", "<", "+", "-", "*", "%"} {
						l = append(l, bin(sign, x, y))
					}
					l = append(l, k(api.NCall, "f", 0, x, y))
				}
			}
		}
		all = append(all, l)
	}
	return all
}

// P5.3, P5.4, P5.5, P0.8: all small expressions.
func TestSmallExpressions(t *testing.T) {
	seen := map[string]int{}
	number := 0
	for _, l := range allExpressions(5) {
		for _, x := range l {
			f := flat(x)
			s, e := print.Expr(f)
			if e != api.OK {
				t.Fatalf("%v: %v", f.Nodes, e)
			}
			if number++; seen[s] > 0 {
				t.Fatalf("two trees are told as %q", s)
			}
			seen[s] = number
			mustComeBack(t, f, s)
			mustNeedBrackets(t, f, s)
			mustStandWithin(t, f)
		}
	}
	if number < 50000 {
		t.Errorf("only %d expressions", number)
	}
}

// brackets are the places of the pairs of brackets that stand around something, but belong to no call, box or read.
func brackets(s string) [][2]int {
	var l [][2]int
	var open []int
	for i := range len(s) {
		switch s[i] {
		case '(':
			open = append(open, i)
		case ')':
			first := open[len(open)-1]
			open = open[:len(open)-1]
			if first == 0 || !strings.ContainsAny(s[first-1:first], "abcdefghijklmnopqrstuvwxyz0123456789_") {
				l = append(l, [2]int{first, i})
			}
		}
	}
	return l
}

// mustNeedBrackets takes each pair of brackets away: what is left must not be the tree's text.
func mustNeedBrackets(t *testing.T, f api.Tree, s string) int {
	t.Helper()
	l := brackets(s)
	for _, pair := range l {
		less := s[:pair[0]] + s[pair[0]+1:pair[1]] + s[pair[1]+1:]
		if other, _, e := parse.Expr(less); e == api.OK && tree.Same(f, other) {
			t.Fatalf("%q is the text of the tree of %q, too", less, s)
		}
	}
	return len(l)
}

// P5.4: of greater expressions.
func TestNoBracketTooMuch(t *testing.T) {
	c := byChance(56)
	pairs := 0
	for i := range 8000 {
		f := flat(c.expression(2 + i%5))
		s, e := print.Expr(f)
		if e == api.OK && len(f.Nodes) < 200 {
			pairs += mustNeedBrackets(t, f, s)
		}
	}
	if pairs < 4000 {
		t.Errorf("only %d pairs", pairs)
	}
}

// mustStandWithin asks that the text of each node that has one stands within that of the nearest one above it that has one.
func mustStandWithin(t *testing.T, f api.Tree) {
	t.Helper()
	texts := make([]string, len(f.Nodes))
	up, _ := tree.Up(f)
	for n := range f.Nodes {
		if takers(f.Nodes[n].Kind) == nil {
			continue
		}
		sub, _ := tree.Sub(f, n)
		s, e := told(sub)
		if e != api.OK {
			return
		}
		texts[n] = s
		above := up[n]
		for above > 0 && texts[above] == "" {
			above = up[above]
		}
		if above >= 0 && f.Nodes[above].Kind == api.NBlock {
			s = "\n    " + strings.ReplaceAll(s, "\n", "\n    ") + "\n"
		}
		if above >= 0 && !strings.Contains(texts[above], s) {
			t.Fatalf("%q has no %q in it", texts[above], s)
		}
	}
}

// P5.5: the text of a node's child stands within its own.
func TestStandsWithin(t *testing.T) {
	c := byChance(57)
	for i := range 3000 {
		f := flat(c.any(i % 6))
		if len(f.Nodes) < 300 {
			mustStandWithin(t, f)
		}
	}
}

// P5.3: unlike trees have unlike texts, like ones (but for At) the same.
func TestUnlikeTexts(t *testing.T) {
	c := byChance(58)
	seen := map[string]api.Tree{}
	for range 20000 {
		f := flat(c.file(c.Intn(3)))
		s, e := print.File(f)
		if e != api.OK {
			t.Fatal(e)
		}
		if old, ok := seen[s]; ok && !tree.Same(old, f) {
			t.Fatalf("%v and %v are told as %q", old.Nodes, f.Nodes, s)
		}
		seen[s] = f
		for n := range f.Nodes {
			f.Nodes[n].At += 1 + n%3
		}
		if same, e := print.File(f); e != api.OK || same != s {
			t.Fatalf("%q, elsewhere %q, %v", s, same, e)
		}
	}
}
