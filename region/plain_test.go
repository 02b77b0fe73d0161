package region_test

import (
	"fmt"
	"regexp"
	"slices"
	"strconv"
	"strings"
	"testing"

	"loanword/api"
	"loanword/region"
)

// What the package is held against: the chapter's words, said of types' texts.

// plainRegions are a graph's regions, the locals' types as texts.
type plainRegions struct {
	count  int
	locals []string
	at     []int
}

func plainOf(u api.Unit, fn int) plainRegions {
	g := u.Fns[fn]
	x := plainRegions{count: g.Lives}
	for _, t := range g.Locals {
		var s string
		s, x.count = numbered(textOf(t), x.count)
		x.locals = append(x.locals, s)
	}
	for _, p := range g.Points {
		makes := 0
		if p.Op == api.Borrow {
			makes = 1
		}
		if p.Op == api.Call {
			makes = u.Fns[p.Fn].Lives
		}
		if makes == 0 {
			x.at = append(x.at, -1)
		} else {
			x.at = append(x.at, x.count)
		}
		x.count += makes
	}
	return x
}

// numbered is a type's text with a number for each & that has none, from one on, and the next number.
func numbered(s string, next int) (string, int) {
	out := ""
	for i, c := range s {
		if c == ' ' && s[i-1] == '&' {
			continue
		}
		out += string(c)
		if c == '&' && s[i+1] != '\'' {
			out += fmt.Sprintf("'%d ", next)
			next++
		}
	}
	return out, next
}

var aRegion = regexp.MustCompile(`'([0-9]+) `)

// turnedText is a type's text, each region in it turned.
func turnedText(s string, turn func(k int) int) string {
	return aRegion.ReplaceAllStringFunc(s, func(m string) string {
		k, _ := strconv.Atoi(m[1 : len(m)-1])
		return fmt.Sprintf("'%d ", turn(k))
	})
}

// erasedText is a type's text without any regions.
func erasedText(s string) string {
	s = aRegion.ReplaceAllString(s, "")
	for strings.Contains(s, "&&") {
		s = strings.Replace(s, "&&", "& &", 1)
	}
	return s
}

// behind is the text of what a box or a reference of a text points to.
func behind(s string) string {
	if rest, ok := strings.CutPrefix(s, "Box<"); ok {
		return strings.TrimSuffix(rest, ">")
	}
	s = s[1:]
	if s[0] == '\'' || s[0] == ' ' {
		_, s, _ = strings.Cut(s, " ")
	}
	return strings.TrimPrefix(s, "mut ")
}

// place is the text of a place's type.
func (x plainRegions) place(u api.Unit, p api.Place) string {
	s := x.locals[p.Local]
	for _, step := range p.Path {
		if step == api.Deref {
			s = behind(s)
		} else {
			n, _ := strconv.Atoi(s[1:])
			s = textOf(u.Structs[n].Fields[step].Type)
		}
	}
	return s
}

// borrowed is the text of what a Borrow makes.
func (x plainRegions) borrowed(u api.Unit, fn, q int) string {
	p := u.Fns[fn].Points[q]
	mut := ""
	if p.Mut {
		mut = "mut "
	}
	return fmt.Sprintf("&'%d %s%s", x.at[q], mut, x.place(u, p.From))
}

// called are the texts of what is called: parameters, then the answer.
func (x plainRegions) called(u api.Unit, fn, q int) string {
	g := u.Fns[u.Fns[fn].Points[q].Fn]
	all := ""
	for n := range g.Params + 1 {
		t := g.Locals[(n+1)%(g.Params+1)]
		all += " " + turnedText(textOf(t), func(k int) int { return x.at[q] + k }) + ";"
	}
	return all
}

// mustHold asks for all that region tells of a graph, against the oracle.
func mustHold(t *testing.T, u api.Unit, fn int, places []api.Place) {
	t.Helper()
	mustMay(t, u)
	x := plainOf(u, fn)
	if x.count > api.MaxRegions {
		t.Fatal("too many regions")
	}
	locals := ""
	for _, s := range x.locals {
		locals += " " + s + ";"
	}
	r := mustHave(t, u, fn, x.count, x.at, locals)
	if region.Width(r) != len(u.Fns[fn].Points)+u.Fns[fn].Lives {
		t.Fatalf("Width: %d", region.Width(r))
	}
	for _, p := range places {
		got, e := region.Place(u, fn, p)
		mustType(t, fmt.Sprint("Place ", p), got, e, x.place(u, p))
	}
	for q, p := range u.Fns[fn].Points {
		if p.Op != api.Borrow {
			mustNotBorrow(t, u, fn, q, api.ErrOp)
		} else {
			got, e := region.Borrowed(u, fn, q)
			mustType(t, fmt.Sprint("Borrowed at ", q), got, e, x.borrowed(u, fn, q))
		}
		if p.Op != api.Call {
			mustNotCall(t, u, fn, q, api.ErrOp)
		} else if l, answer, e := region.Called(u, fn, q); e != api.OK || textsOf(append(slices.Clone(l), answer)) != x.called(u, fn, q) || len(l) != u.Fns[p.Fn].Params {
			t.Fatalf("Called at %d:%s %s, %v; want%s", q, textsOf(l), textOf(answer), e, x.called(u, fn, q))
		}
	}
}

// The oracle's words of texts, by themselves.
func TestPlain(t *testing.T) {
	for s, want := range map[string]string{"&i64": "&'7 i64", "& &mut i64": "&'7 &'8 mut i64", "Box<&'3 mut & &'0 #2>": "Box<&'3 mut &'7 &'0 #2>", "#1": "#1", "&mut Box<& &i64>": "&'7 mut Box<&'8 &'9 i64>"} {
		if got, _ := numbered(s, 7); got != want {
			t.Errorf("%s: %s, want %s", s, got, want)
		}
	}
	for s, want := range map[string]string{"Box<&'1 i64>": "&'1 i64", "&'1 mut &'2 i64": "&'2 i64", "& &i64": "&i64", "&i64": "i64", "&mut Box<i64>": "Box<i64>", "&'12 Box<Box<#3>>": "Box<Box<#3>>"} {
		if got := behind(s); got != want {
			t.Errorf("%s: %s, want %s", s, got, want)
		}
	}
	if s := erasedText("&'1 &'2 mut &'3 &i64"); s != "& &mut & &i64" {
		t.Error(s)
	}
}
