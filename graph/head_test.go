package graph_test

import (
	"math"
	"slices"
	"strings"
	"testing"

	"loanword/api"
	"loanword/graph"
)

// headUnit is a unit of one graph beside main, which is graph 0.
func headUnit(g api.Graph) api.Unit {
	main := graphOf(0, []string{"i64"}, "return")
	return api.Unit{Structs: []api.Struct{structOf("i64"), structOf("Box<#1>", "bool")}, Fns: []api.Graph{main, g}}
}

// mustHead asks whether the head of graph 1 may be.
func mustHead(t *testing.T, what string, g api.Graph, may bool) {
	t.Helper()
	u := headUnit(g)
	fn, q, e := graph.Check(u)
	if may && (fn != 0 || q != 0 || e != api.OK) || !may && (fn != 1 || q != -1 || e != api.ErrGraph) {
		t.Errorf("%s: %d, %d, %v; may it be: %v", what, fn, q, e, may)
	}
	mustCheck(t, u)
}

// P10.1: how many lifetimes, parameters, locals, names there may be.
func TestHeadCounts(t *testing.T) {
	for _, lives := range []int{math.MinInt, -1, 0, 1, 8, 9, math.MaxInt} {
		g := graphOf(0, []string{"i64"}, "return")
		g.Lives = lives
		mustHead(t, "lives", g, lives >= 0 && lives <= 8)
	}
	for _, params := range []int{math.MinInt, -1, 0, 1, 7, 8, 9, 10, math.MaxInt} {
		for locals := range 12 {
			g := graphOf(0, slices.Repeat([]string{"bool"}, locals), "return")
			g.Params = params
			mustHead(t, "params", g, params >= 0 && params <= 8 && locals > params)
		}
	}
	for _, locals := range []int{1, 511, 512, 513, 600} {
		mustHead(t, "locals", graphOf(0, slices.Repeat([]string{"#1"}, locals), "return"), locals <= 512)
	}
	for names := range 5 {
		g := graphOf(1, []string{"i64", "bool", "i64"}, "return")
		g.Names = slices.Repeat([]string{"any text at all: \xff"}, names)
		mustHead(t, "names", g, names == 3)
	}
}

// P10.1: how many points and Borrows there may be.
func TestHeadPoints(t *testing.T) {
	for _, n := range []int{0, 1, 2, 1023, 1024, 1025} {
		g := graphOf(0, []string{"i64"}, slices.Repeat([]string{"goto -> 0"}, n)...)
		mustHead(t, "points", g, n >= 1 && n <= 1024)
	}
	for local, borrow := range map[string]string{"&mut i64": "_1 = &mut _0", "&i64": "_1 = & _0"} {
		for _, n := range []int{255, 256, 257, 1023} {
			points := append(slices.Repeat([]string{borrow}, n), "return")
			mustHead(t, "Borrows", graphOf(0, []string{"i64", local}, points...), n <= 256)
		}
	}
	// Borrows count, whether they are as they must be or not.
	g := graphOf(0, []string{"i64"}, "return")
	g.Points = append(g.Points, slices.Repeat([]api.Point{{Op: api.Borrow, At: -5}}, 257)...)
	mustHead(t, "wrong Borrows", g, false)
}

// P10.1: which types locals may have, with which regions.
func TestHeadLocals(t *testing.T) {
	for _, c := range []struct {
		params, lives int
		locals        string
		may           bool
	}{
		{0, 0, "#0;#1", true},
		{0, 0, "i64;#2", false},
		{0, 0, "#2;i64", false},
		{0, 0, "i64;Box<#2>", false},
		{0, 0, "i64;&i64;&mut &#1", true},
		{0, 0, "i64;&'0 i64", false},
		{0, 1, "i64;&'0 i64;& &'0 mut i64", true},
		{0, 1, "i64;&'1 i64", false},
		{0, 1, "i64;Box<&Box<&'1 i64>>", false},
		{0, 8, "i64;&'7 i64;&'0 bool", true},
		{0, 8, "i64;&'8 i64", false},
		{0, 8, "i64;&'9223372036854775807 i64", false},
		{0, 1, "&'0 i64", true},
		{0, 1, "&i64", false},
		{0, 1, "Box<&i64>", false},
		{1, 1, "i64;&i64", false},
		{1, 1, "i64;&'0 &i64", false},
		{1, 1, "i64;&'0 i64;&i64", true},
		{2, 2, "i64;&'0 i64;&'1 i64;&i64", true},
		{2, 2, "i64;&'0 i64;&i64;&i64", false},
		{2, 2, "i64;&'0 i64;&'2 i64;&i64", false},
	} {
		g := graphOf(c.params, strings.Split(c.locals, ";"), "return")
		g.Lives = c.lives
		mustHead(t, c.locals, g, c.may)
	}
	for _, wrong := range []api.Type{{}, {Kind: api.TyInt, Region: 1}, {Kind: api.TyBox}, {Kind: api.TyStruct, Struct: -1}, {Kind: 9}, {Kind: api.TyRef, Region: -2, Of: typesOf("i64")}} {
		g := graphOf(0, []string{"i64", "bool", "i64"}, "return")
		g.Locals[2] = wrong
		mustHead(t, "a type that may not be", g, false)
		g.Locals[2], g.Locals[0] = g.Locals[1], wrong
		mustHead(t, "a type that may not be", g, false)
	}
}

// P10.1: what Outlives may say: of each set of pairs of three lifetimes, beside each of some signatures.
func TestHeadOutlives(t *testing.T) {
	var pairs []api.Outlives
	for long := range 3 {
		for short := range 3 {
			if long != short {
				pairs = append(pairs, api.Outlives{Long: long, Short: short})
			}
		}
	}
	taken := map[string]int{}
	for _, signature := range []string{"i64;i64;i64", "&'0 i64;i64;i64", "i64;&'0 &'1 i64;i64", "&'1 mut &'0 i64;i64;i64", "i64;i64;&'2 &'1 mut &'0 i64", "i64;&'0 &'0 i64;i64",
		"i64;&'0 Box<&'1 Box<&'0 i64>>;i64", "Box<&'2 Box<&'1 bool>>;&'1 &'0 i64;&'0 i64", "i64;&'1 &'0 i64;&'2 &'1 i64"} {
		for set := range 1 << len(pairs) {
			g := graphOf(2, append(strings.Split(signature, ";"), "& &i64", "&'1 &'2 i64"), "return")
			g.Lives = 3
			for i, o := range pairs {
				if set>>i&1 == 1 {
					g.Outlives = append(g.Outlives, o)
				}
			}
			if mustCheck(t, headUnit(g)) {
				taken[signature]++
			}
		}
	}
	// Three things can be put into an order, with ties and gaps, in 29 ways; where two must stand to each other there are less.
	if taken["i64;i64;i64"] != 29 || taken["&'0 i64;i64;i64"] != 29 || taken["i64;&'0 &'0 i64;i64"] != 29 || taken["i64;&'0 &'1 i64;i64"] >= 29 || taken["i64;&'0 &'1 i64;i64"] < 5 {
		t.Errorf("%v", taken)
	}
}

// P10.1: lists that say it otherwise than it must be said.
func TestHeadOutlivesList(t *testing.T) {
	for _, c := range []struct {
		says string
		may  bool
	}{
		{"", true},
		{"1>0", true},
		{"1>0 2>0", true},
		{"2>0 1>0", false},
		{"2>0 2>1", true},
		{"2>1 2>0", false},
		{"0>1 1>0", true},
		{"1>0 0>1", false},
		{"1>0 1>0", false},
		{"0>0", false},
		{"1>1", false},
		{"0>3", false},
		{"3>0", false},
		{"1>0 2>1", false},
		{"1>0 2>0 2>1", true},
		{"0>1 0>2 1>0 1>2 2>0 2>1", true},
		{"0>1 0>2 1>0 1>2 2>0", false},
	} {
		mustHead(t, c.says, withLives(graphOf(0, []string{"i64"}, "return"), 3, c.says), c.may)
	}
	for _, o := range []api.Outlives{{Long: -1, Short: 0}, {Long: 0, Short: -1}, {Long: math.MinInt, Short: math.MaxInt}, {Long: -1, Short: -1}, {Long: 8, Short: 0}} {
		g := withLives(graphOf(0, []string{"i64"}, "return"), 8, "")
		g.Outlives = []api.Outlives{o}
		mustHead(t, "no lifetimes", g, false)
		g.Outlives = []api.Outlives{{Long: 1, Short: 0}, o}
		mustHead(t, "no lifetimes", g, false)
	}
	// As many as there can be: all but of a lifetime and itself.
	g := withLives(graphOf(0, []string{"i64"}, "return"), 8, "")
	for k := range 64 {
		if k/8 != k%8 {
			g.Outlives = append(g.Outlives, api.Outlives{Long: k / 8, Short: k % 8})
		}
	}
	mustHead(t, "all", g, true)
	for i := range g.Outlives {
		one := g
		one.Outlives = slices.Delete(slices.Clone(g.Outlives), i, i+1)
		mustHead(t, "all but one", one, false)
	}
	// What a local that is no parameter has implies nothing.
	mustHead(t, "a local", withLives(graphOf(0, []string{"i64", "&'0 &'1 i64"}, "return"), 2, ""), true)
	mustHead(t, "a parameter", withLives(graphOf(1, []string{"i64", "&'0 &'1 i64"}, "return"), 2, ""), false)
	mustHead(t, "a parameter", withLives(graphOf(1, []string{"i64", "&'0 &'1 i64"}, "return"), 2, "1>0"), true)
}

// P10.1: what is implied far in: a reference of many, of all lifetimes.
func TestHeadImpliedDeep(t *testing.T) {
	deep := "&'7 mut Box<&'6 &'5 Box<Box<&'4 mut &'3 &'2 &'1 mut Box<&'0 mut #1>>>>"
	var all []string
	for long := range 8 {
		for short := long + 1; short < 8; short++ {
			all = append(all, string(rune('0'+long))+">"+string(rune('0'+short)))
		}
	}
	for params, locals := range [][]string{{deep}, {"i64", deep}} {
		mustHead(t, "all", withLives(graphOf(params, locals, "return"), 8, strings.Join(all, " ")), true)
		for i := range all {
			rest := strings.Join(slices.Delete(slices.Clone(all), i, i+1), " ")
			mustHead(t, "all but "+all[i], withLives(graphOf(params, locals, "return"), 8, rest), false)
		}
	}
}

// P10.1: main is asked for more than others.
func TestHeadMain(t *testing.T) {
	for _, c := range []struct {
		params, lives int
		locals        string
		may           bool
	}{
		{0, 0, "i64", true},
		{0, 0, "i64;&i64;#0", true},
		{0, 1, "i64", false},
		{1, 0, "i64;i64", false},
		{0, 0, "bool", false},
		{0, 0, "#0", false},
		{0, 0, "Box<i64>", false},
		{0, 1, "&'0 i64", false},
	} {
		g := graphOf(c.params, strings.Split(c.locals, ";"), "return")
		g.Lives = c.lives
		u := headUnit(g)
		if fn, q, e := graph.Check(u); e != api.OK {
			t.Errorf("%s: %d, %d, %v", c.locals, fn, q, e)
		}
		u.Main = 1
		if fn, q, e := graph.Check(u); c.may && e != api.OK || !c.may && (fn != 1 || q != -1 || e != api.ErrGraph) {
			t.Errorf("main %s: %d, %d, %v", c.locals, fn, q, e)
		}
		mustCheck(t, u)
	}
}
