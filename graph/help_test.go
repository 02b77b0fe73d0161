package graph_test

import (
	"fmt"
	"reflect"
	"regexp"
	"slices"
	"strconv"
	"strings"
	"testing"

	"loanword/api"
	"loanword/graph"
	"loanword/place"
	"loanword/types"
)

const deref = api.Deref

// typeOf is the type of a text of layer 6.
func typeOf(s string) api.Type {
	x, _, e := types.Read(s)
	if e != api.OK {
		panic("no type: " + s)
	}
	return x
}

func typesOf(l ...string) []api.Type {
	var all []api.Type
	for _, s := range l {
		all = append(all, typeOf(s))
	}
	return all
}

// structOf is a struct of fields of these types.
func structOf(l ...string) api.Struct {
	var s api.Struct
	for _, f := range l {
		s.Fields = append(s.Fields, api.Field{Name: "f" + strconv.Itoa(len(s.Fields)), Type: typeOf(f)})
	}
	return s
}

// at is the place of a text of layer 9.
func at(s string) api.Place {
	p, e := place.Read(s)
	if e != api.OK {
		panic("no place: " + s)
	}
	return p
}

// operandOf is the operand of a text.
func operandOf(s string) api.Operand {
	if rest, ok := strings.CutPrefix(s, "copy "); ok {
		return api.Operand{Kind: api.Copy, Place: at(rest)}
	}
	if rest, ok := strings.CutPrefix(s, "move "); ok {
		return api.Operand{Kind: api.Move, Place: at(rest)}
	}
	switch s {
	case "false":
		return api.Operand{Kind: api.ConstBool}
	case "true":
		return api.Operand{Kind: api.ConstBool, N: 1}
	}
	n, err := strconv.ParseInt(s, 10, 64)
	if err != nil {
		panic("no operand: " + s)
	}
	return api.Operand{Kind: api.ConstInt, N: n}
}

func operandsOf(s string) []api.Operand {
	var l []api.Operand
	for _, o := range strings.Split(s, ", ") {
		if s != "" {
			l = append(l, operandOf(o))
		}
	}
	return l
}

const operandText = `((?:copy |move )?[-_.*0-9]+|true|false)`

// The texts of points, each with what it is.
var pointTexts = []struct {
	text string
	made func(m []string) api.Point
}{
	{operandText, func(m []string) api.Point { return api.Point{Op: api.Use, A: operandOf(m[0])} }},
	{operandText + ` ([-+*/%=!<>]=?) ` + operandText, func(m []string) api.Point {
		return api.Point{Op: api.Binary, A: operandOf(m[0]), Sign: m[1], B: operandOf(m[2])}
	}},
	{`(-|!) ` + operandText, func(m []string) api.Point { return api.Point{Op: api.Unary, Sign: m[0], A: operandOf(m[1])} }},
	{`& (_.*)`, func(m []string) api.Point { return api.Point{Op: api.Borrow, From: at(m[0])} }},
	{`&mut (_.*)`, func(m []string) api.Point { return api.Point{Op: api.Borrow, From: at(m[0]), Mut: true} }},
	{`box ` + operandText, func(m []string) api.Point { return api.Point{Op: api.Box, A: operandOf(m[0])} }},
	{`read`, func(m []string) api.Point { return api.Point{Op: api.Read} }},
	{`#([0-9]+)\((.*)\)`, func(m []string) api.Point {
		return api.Point{Op: api.Make, Struct: number(m[0]), Args: operandsOf(m[1])}
	}},
	{`f([0-9]+)\((.*)\)`, func(m []string) api.Point { return api.Point{Op: api.Call, Fn: number(m[0]), Args: operandsOf(m[1])} }},
	{`print ` + operandText, func(m []string) api.Point { return api.Point{Op: api.Print, A: operandOf(m[0])} }},
	{`drop (_.*)`, func(m []string) api.Point { return api.Point{Op: api.Drop, From: at(m[0])} }},
	{`dead (_.*)`, func(m []string) api.Point { return api.Point{Op: api.Dead, From: at(m[0])} }},
	{`if ` + operandText, func(m []string) api.Point { return api.Point{Op: api.Branch, A: operandOf(m[0])} }},
	{`goto`, func(m []string) api.Point { return api.Point{Op: api.Goto} }},
	{`return`, func(m []string) api.Point { return api.Point{Op: api.Return} }},
}

var (
	pointShape   = regexp.MustCompile(`^(?:(_[^ ]*) = )?(.*?)(?: -> ([0-9]+)(?: else ([0-9]+))?)?$`)
	pointMatches = func() (l []*regexp.Regexp) {
		for _, x := range pointTexts {
			l = append(l, regexp.MustCompile("^"+x.text+"$"))
		}
		return l
	}()
)

func number(s string) int {
	n, err := strconv.Atoi(s)
	if err != nil {
		panic("no number: " + s)
	}
	return n
}

// pointOf is the point at q of a text: the way back from Text.
func pointOf(q int, s string) api.Point {
	m := pointShape.FindStringSubmatch(s)
	for i, x := range pointTexts {
		inner := pointMatches[i].FindStringSubmatch(m[2])
		if inner == nil {
			continue
		}
		p := x.made(inner[1:])
		if m[1] != "" {
			p.To = at(m[1])
		}
		if p.Op != api.Return {
			p.Next = q + 1
		}
		if m[3] != "" {
			p.Next = number(m[3])
		}
		if m[4] != "" {
			p.Else = number(m[4])
		}
		return p
	}
	panic("no point: " + s)
}

// graphOf is a graph with these locals and points.
func graphOf(params int, locals []string, points ...string) api.Graph {
	g := api.Graph{Params: params, Locals: typesOf(locals...), Names: make([]string, len(locals))}
	for q, s := range points {
		p := pointOf(q, s)
		p.At = 100 + q
		g.Points = append(g.Points, p)
	}
	return g
}

// withLives is g with so many lifetimes, of which these outlive others: "1>0 2>0".
func withLives(g api.Graph, lives int, outlives string) api.Graph {
	g.Lives = lives
	for _, s := range strings.Fields(outlives) {
		long, short, _ := strings.Cut(s, ">")
		g.Outlives = append(g.Outlives, api.Outlives{Long: number(long), Short: number(short)})
	}
	return g
}

// world is a unit of two graphs with all kinds of locals; main is graph 1.
func world() api.Unit {
	f := graphOf(2, []string{"&'0 i64", "&'0 i64", "&'1 mut &'2 mut #0", "i64", "&#0", "&'1 mut i64"}, "_0 = copy _1", "_5 = &mut _2.*.*.0", "_5.* = 1", "return")
	f = withLives(f, 3, "0>1 2>1")
	f.Name, f.Names = "f", []string{"", "x", "y", "", "", "z"}
	locals := []string{"i64", "bool", "Box<i64>", "&i64", "&mut i64", "#0", "&#0", "&mut #0", "Box<&mut i64>", "&mut &i64", "& &mut i64", "#1", "Box<#1>",
		"&mut Box<#0>", "i64", "bool", "#2", "&mut #2", "&Box<i64>", "&mut Box<i64>", "&mut &mut #0", "Box<Box<i64>>"}
	g := graphOf(0, locals, "_2 = box 7", "_16 = #2(false)", "_3 = & _2.*", "_0 = copy _3.*", "return")
	g.Name = "main"
	return api.Unit{Structs: []api.Struct{structOf("i64", "Box<i64>"), structOf("#0", "Box<#1>", "bool"), structOf("bool")}, Fns: []api.Graph{f, g}, Main: 1}
}

// own is u in memory of its own, whether it may be or not.
func own(u api.Unit) api.Unit {
	return owned(reflect.ValueOf(u)).Interface().(api.Unit)
}

func owned(v reflect.Value) reflect.Value {
	x := reflect.New(v.Type()).Elem()
	switch v.Kind() {
	case reflect.Struct:
		for i := range v.NumField() {
			x.Field(i).Set(owned(v.Field(i)))
		}
	case reflect.Slice:
		for i := range v.Len() {
			x.Set(reflect.Append(x, owned(v.Index(i))))
		}
	default:
		x.Set(v)
	}
	return x
}

// allPlaces are all places of a graph of up to so many steps.
func allPlaces(u api.Unit, fn, most int) []api.Place {
	var l []api.Place
	for local := range u.Fns[fn].Locals {
		last := []api.Place{{Local: local}}
		for k := 0; len(last) > 0; k++ {
			l = append(l, last...)
			var longer []api.Place
			for _, p := range last {
				for step := deref; k < most && step < api.MaxFields; step++ {
					q := api.Place{Local: local, Path: append(slices.Clone(p.Path), step)}
					if place.May(u.Structs, u.Fns[fn].Locals, q) {
						longer = append(longer, q)
					}
				}
			}
			last = longer
		}
	}
	return l
}

// wrongPlaces are none of a graph's, whichever it is.
func wrongPlaces(g api.Graph) []api.Place {
	n := len(g.Locals)
	return []api.Place{{Local: -1}, {Local: n}, {Local: 1, Path: []api.Step{-2}}, {Local: n - 1, Path: []api.Step{8}}, {Path: make([]api.Step, 9)}, {Path: []api.Step{deref}}, {Local: n + 1, Path: []api.Step{0}}}
}

// mustCheck asks what Check, May and all calls that want a unit that may be make of u, against the oracle.
func mustCheck(t *testing.T, u api.Unit) bool {
	t.Helper()
	fn, q, e := graph.Check(u)
	wantFn, wantQ, ok := plainCheck(u)
	wantE := api.OK
	if !ok {
		wantE = api.ErrGraph
	}
	if fn != wantFn || q != wantQ || e != wantE {
		t.Fatalf("Check: %d, %d, %v; want %d, %d, %v: %s", fn, q, e, wantFn, wantQ, wantE, told(u, wantFn, wantQ))
	}
	if graph.May(u) != ok {
		t.Fatalf("May: %v: %s", !ok, told(u, wantFn, wantQ))
	}
	return ok
}

func told(u api.Unit, fn, q int) string {
	switch {
	case fn < 0 || fn >= len(u.Fns):
		return fmt.Sprintf("%d structs, %d graphs, main %d", len(u.Structs), len(u.Fns), u.Main)
	case q < 0 || q >= len(u.Fns[fn].Points):
		g := u.Fns[fn]
		return fmt.Sprintf("lives %d, params %d, outlives %.200v, %d locals, %d names, %d points, locals %.300v", g.Lives, g.Params, g.Outlives, len(g.Locals), len(g.Names), len(g.Points), g.Locals)
	}
	return fmt.Sprintf("%+v", u.Fns[fn].Points[q])
}

// mustRefuse asks that every call answers ErrArg of u at (fn, q), and nothing beside it.
func mustRefuse(t *testing.T, u api.Unit, fn, q int) {
	t.Helper()
	l, e := graph.Next(u, fn, q)
	mustBe(t, "Next", e, api.ErrArg, len(l) == 0)
	o, e := graph.Operands(u, fn, q)
	mustBe(t, "Operands", e, api.ErrArg, len(o) == 0)
	p, is, e := graph.Assigns(u, fn, q)
	mustBe(t, "Assigns", e, api.ErrArg, !is && p.Local == 0 && len(p.Path) == 0)
	s, e := graph.Text(u, fn, q)
	mustBe(t, "Text", e, api.ErrArg, s == "")
}

// mustRefuseGraph asks the same of the calls that are asked of a whole graph.
func mustRefuseGraph(t *testing.T, u api.Unit, fn int) {
	t.Helper()
	x, e := graph.Type(u, fn, api.Place{})
	mustBe(t, "Type", e, api.ErrArg, reflect.DeepEqual(x, api.Type{}))
	lines, e := graph.Lines(u, fn)
	mustBe(t, "Lines", e, api.ErrArg, len(lines) == 0)
	l, e := graph.Calls(u, fn)
	mustBe(t, "Calls", e, api.ErrArg, len(l) == 0)
	mustRefuse(t, u, fn, 0)
}

func mustBe(t *testing.T, what string, e, want api.Errno, zero bool) {
	t.Helper()
	if e != want || !zero {
		t.Fatalf("%s: %v, with zero values beside it: %v; want %v", what, e, zero, want)
	}
}
