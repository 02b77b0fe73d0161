package outlive_test

import (
	"regexp"
	"slices"
	"testing"

	"loanword/api"
	"loanword/region"
	"loanword/types"
)

// What the package is held against: the chapter's words, said of the types that layer 13 tells, and of types' texts.

func regionsOf(t *testing.T, u api.Unit, fn int) api.Regions {
	t.Helper()
	r, e := region.Of(u, fn)
	if e != api.OK {
		t.Fatalf("%s: %v", textOf(u, fn), e)
	}
	return r
}

var reference = regexp.MustCompile(`&(?:'(\d+) )?(mut )?`)

// reads are the regions of a type's references, from the outermost one in, and which of them stand behind a mutable one.
func reads(text string) (regions []int, behind []bool) {
	mut := false
	for _, m := range reference.FindAllStringSubmatch(text, -1) {
		k := -1
		if m[1] != "" {
			k = numberOf(m[1])
		}
		regions, behind = append(regions, k), append(behind, mut)
		mut = mut || m[2] != ""
	}
	return regions, behind
}

// plainFlows is what a type's text flowing into another one's says.
func plainFlows(from, into string) []api.Constraint {
	var l []api.Constraint
	a, behind := reads(from)
	b, _ := reads(into)
	for k := range a {
		l = append(l, api.Constraint{Long: a[k], Short: b[k]})
		if behind[k] {
			l = append(l, api.Constraint{Long: b[k], Short: a[k]})
		}
	}
	return l
}

// asked is a graph of which the oracle is asked.
type asked struct {
	t  *testing.T
	u  api.Unit
	fn int
}

func (x asked) text(t api.Type, e api.Errno) string {
	x.t.Helper()
	s, f := types.Text(t)
	if e != api.OK || f != api.OK {
		x.t.Fatalf("%s: %+v, %v", textOf(x.u, x.fn), t, e)
	}
	return s
}

func (x asked) place(p api.Place) string {
	x.t.Helper()
	t, e := region.Place(x.u, x.fn, p)
	return x.text(t, e)
}

// operand is what it says that an operand is laid where a text's type is asked.
func (x asked) operand(o api.Operand, into string) []api.Constraint {
	if o.Kind != api.Copy && o.Kind != api.Move {
		return nil
	}
	return plainFlows(x.place(o.Place), into)
}

// at are the constraints of a point.
func (x asked) at(q int) []api.Constraint {
	x.t.Helper()
	p := x.u.Fns[x.fn].Points[q]
	switch p.Op {
	case api.Use:
		return x.operand(p.A, x.place(p.To))
	case api.Box:
		return x.operand(p.A, x.place(api.Place{Local: p.To.Local, Path: append(slices.Clone(p.To.Path), api.Deref)}))
	case api.Borrow:
		made, e := region.Borrowed(x.u, x.fn, q)
		return append(plainFlows(x.text(made, e), x.place(p.To)), x.reborrowed(p.From, made.Region)...)
	case api.Call:
		return x.called(q)
	}
	return nil
}

// reborrowed is what a Borrow says of the references in From.
func (x asked) reborrowed(from api.Place, own int) []api.Constraint {
	x.t.Helper()
	var l []api.Constraint
	for n := len(from.Path) - 1; n >= 0; n-- {
		t, e := region.Place(x.u, x.fn, api.Place{Local: from.Local, Path: from.Path[:n]})
		if e != api.OK {
			x.t.Fatal(e)
		}
		if from.Path[n] != api.Deref || t.Kind != api.TyRef {
			continue
		}
		l = append(l, api.Constraint{Long: t.Region, Short: own})
		if !t.Mut {
			break
		}
	}
	return l
}

// called is what a Call says.
func (x asked) called(q int) []api.Constraint {
	x.t.Helper()
	p := x.u.Fns[x.fn].Points[q]
	params, answer, e := region.Called(x.u, x.fn, q)
	var l []api.Constraint
	for k, o := range p.Args {
		l = append(l, x.operand(o, x.text(params[k], e))...)
	}
	l = append(l, plainFlows(x.text(answer, e), x.place(p.To))...)
	first := regionsOf(x.t, x.u, x.fn).At[q]
	for _, o := range x.u.Fns[p.Fn].Outlives {
		l = append(l, api.Constraint{Long: first + o.Long, Short: first + o.Short})
	}
	return l
}

// mustHold asks Of and At of a graph against the oracle, and answers what Of tells.
func mustHold(t *testing.T, u api.Unit, fn int) []api.Constraint {
	t.Helper()
	var all []api.Constraint
	for q := range u.Fns[fn].Points {
		l := asked{t, u, fn}.at(q)
		mustAt(t, u, fn, q, said(l))
		all = append(all, l...)
	}
	return mustOf(t, u, fn, said(once(all)))
}

// plainFrom are the regions whose rows must have all of one's: what there is a chain of constraints to.
func plainFrom(l []api.Constraint, count, region int) []int {
	must := make([]bool, count)
	must[region] = true
	for range count {
		for _, c := range l {
			must[c.Long] = must[c.Long] || must[c.Short]
		}
	}
	var from []int
	for k, is := range must {
		if is {
			from = append(from, k)
		}
	}
	return from
}

// plainClosed tells of rows written out as texts of 0 and 1 whether they are closed.
func plainClosed(l []api.Constraint, rows []string) (which, bit int, is bool) {
	for which, c := range l {
		for bit := range rows[c.Short] {
			if rows[c.Short][bit] == '1' && rows[c.Long][bit] == '0' {
				return which, bit, false
			}
		}
	}
	return 0, 0, true
}

// The oracle's words of texts, by themselves.
func TestPlain(t *testing.T) {
	for _, x := range [][3]string{{"&'1 i64", "&'2 i64", "1:2"}, {"& &i64", "&'7 &i64", "-1:7 -1:-1"}, {"&'1 mut Box<&'2 &'3 mut & #4>", "&'5 mut Box<&'6 &'7 mut &'8 #4>", "1:5 2:6 6:2 3:7 7:3 -1:8 8:-1"}, {"#1", "#1", ""}} {
		if s := said(plainFlows(x[0], x[1])); s != x[2] {
			t.Errorf("%s into %s: %s; want %s", x[0], x[1], s, x[2])
		}
	}
}
