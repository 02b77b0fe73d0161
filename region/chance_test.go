package region_test

import (
	"maps"
	"math/rand"
	"slices"
	"testing"

	"loanword/api"
	"loanword/place"
	"loanword/types"
)

// chance makes units.
type chance struct{ *rand.Rand }

func byChance(seed int64) chance { return chance{rand.New(rand.NewSource(seed))} }

func pick[T any](c chance, l ...T) T { return l[c.Intn(len(l))] }

// unit is one that may be. Its points lay what they make into locals of their own.
func (c chance) unit() api.Unit {
	u := api.Unit{Structs: pick(c, nil, structs, []api.Struct{structOf("bool"), structOf("#0", "i64"), structOf("Box<#2>", "#1")})}
	n := 1 + c.Intn(4)
	u.Main = c.Intn(n)
	for fn := range n {
		u.Fns = append(u.Fns, c.head(len(u.Structs), fn == u.Main))
	}
	for fn := range u.Fns {
		c.points(u, fn)
	}
	return u
}

func (c chance) head(structs int, main bool) api.Graph {
	var g api.Graph
	if !main {
		g.Lives, g.Params = c.Intn(4), c.Intn(4)
	}
	for n := range g.Params + 1 + c.Intn(10) {
		least := -1
		if n <= g.Params {
			least = 0
		}
		t := c.typ(structs, least, g.Lives, 4)
		if n == 0 && main {
			t = typeOf("i64")
		}
		g.Locals = append(g.Locals, t)
	}
	says := map[api.Outlives]bool{}
	for _, t := range g.Locals[:g.Params+1] {
		l := types.Regions(t)
		for i := range l {
			for j := range i {
				says[api.Outlives{Long: l[i], Short: l[j]}] = true
			}
		}
	}
	g.Outlives = followed(says)
	return g
}

// followed is all that follows of what is said, sorted.
func followed(says map[api.Outlives]bool) []api.Outlives {
	for before := -1; before != len(says); {
		before = len(says)
		for a := range maps.Clone(says) {
			for b := range maps.Clone(says) {
				if a.Short == b.Long {
					says[api.Outlives{Long: a.Long, Short: b.Short}] = true
				}
			}
		}
	}
	var l []api.Outlives
	for o := range says {
		if o.Long != o.Short {
			l = append(l, o)
		}
	}
	slices.SortFunc(l, func(a, b api.Outlives) int { return (a.Long-b.Long)*100 + a.Short - b.Short })
	return l
}

// typ is a type with regions from least to lives - 1.
func (c chance) typ(structs, least, lives, deep int) api.Type {
	switch k := c.Intn(6); {
	case k == 0 && deep > 0:
		return api.Type{Kind: api.TyBox, Of: []api.Type{c.typ(structs, least, lives, deep-1)}}
	case k < 4 && deep > 0 && least < lives:
		return api.Type{Kind: api.TyRef, Mut: c.Intn(2) == 0, Region: least + c.Intn(lives-least), Of: []api.Type{c.typ(structs, least, lives, deep-1)}}
	case k == 4 && structs > 0:
		return api.Type{Kind: api.TyStruct, Struct: c.Intn(structs)}
	case k == 5:
		return typeOf("bool")
	}
	return typeOf("i64")
}

// placesOf are all places of a graph of up to so many steps.
func placesOf(u api.Unit, fn, most int) []api.Place {
	var l []api.Place
	for local := range u.Fns[fn].Locals {
		last := []api.Place{{Local: local}}
		for k := 0; len(last) > 0; k++ {
			l = append(l, last...)
			var longer []api.Place
			for _, p := range last {
				for step := api.Deref; k < most && step < api.MaxFields; step++ {
					q := api.Place{Local: local, Path: append(slices.Clone(p.Path), step)}
					if place.May(u.Structs, u.Fns[fn].Locals, q) {
						longer = append(longer, q)
					}
				}
			}
			last = longer
		}
	}
	return l
}

// points lays points into a graph, some of which go on anywhere.
func (c chance) points(u api.Unit, fn int) {
	g := &u.Fns[fn]
	places := placesOf(u, fn, 4)
	n := 1 + c.Intn(15)
	for q := range n {
		p := c.point(u, g, pick(c, places...))
		p.At = c.Intn(1000)
		if p.Op != api.Return {
			p.Next = pick(c, q+1, c.Intn(n)) % n
		}
		g.Points = append(g.Points, p)
	}
	g.Names = make([]string, len(g.Locals))
}

// goes tells how a place goes: layer 9's steps.
func goes(u api.Unit, g *api.Graph, p api.Place) []int {
	l, _ := place.Goes(u.Structs, g.Locals, p)
	return l
}

// point is one that does something with a place, or calls something.
func (c chance) point(u api.Unit, g *api.Graph, from api.Place) api.Point {
	t, _ := place.Type(u.Structs, g.Locals, from)
	way := goes(u, g, from)
	switch k := c.Intn(8); {
	case k < 3:
		p := api.Point{Op: api.Borrow, From: from, Mut: !slices.Contains(way, 3) && c.Intn(2) == 0}
		p.To = c.local(g, api.Type{Kind: api.TyRef, Mut: p.Mut, Of: []api.Type{t}})
		return p
	case k < 6:
		p := api.Point{Op: api.Call, Fn: c.Intn(len(u.Fns))}
		called := u.Fns[p.Fn]
		for _, t := range called.Locals[1 : 1+called.Params] {
			p.Args = append(p.Args, operand(c.local(g, t), t))
		}
		p.To = c.local(g, called.Locals[0])
		return p
	case k == 6 && (types.Copies(t) || !slices.ContainsFunc(way, func(k int) bool { return k > 1 })):
		return api.Point{Op: api.Use, A: operand(from, t), To: c.local(g, t)}
	}
	return pick(c, goOn, goBack)
}

func operand(p api.Place, t api.Type) api.Operand {
	if types.Copies(t) {
		return api.Operand{Kind: api.Copy, Place: p}
	}
	return api.Operand{Kind: api.Move, Place: p}
}

// local is a new local of a type like t, some of its references with a lifetime.
func (c chance) local(g *api.Graph, t api.Type) api.Place {
	var regions []int
	for range types.Regions(t) {
		regions = append(regions, pick(c, -1, -1, c.Intn(g.Lives+1)-1))
	}
	t, _ = types.Anew(t, regions...)
	g.Locals = append(g.Locals, t)
	return api.Place{Local: len(g.Locals) - 1}
}

// P13.1, P13.2: units by chance, against the oracle.
func TestUnitsByChance(t *testing.T) {
	c := byChance(131)
	met := map[string]int{}
	for range 300 {
		u := c.unit()
		for fn, g := range u.Fns {
			mustHold(t, u, fn, placesOf(u, fn, 2))
			for _, p := range g.Points {
				switch {
				case p.Op == api.Borrow && p.Mut:
					met["mutable Borrow"]++
				case p.Op == api.Borrow:
					met["Borrow"]++
				case p.Op == api.Call && u.Fns[p.Fn].Lives == 0:
					met["Call without lifetimes"]++
				case p.Op == api.Call && p.Fn == fn:
					met["Call of itself"]++
				case p.Op == api.Call:
					met["Call"]++
				}
			}
			for _, l := range g.Locals {
				regions := types.Regions(l)
				if slices.Contains(regions, -1) && slices.Max(regions) >= 0 {
					met["local of both"]++
				}
			}
		}
	}
	for _, what := range []string{"mutable Borrow", "Borrow", "Call without lifetimes", "Call of itself", "Call", "local of both"} {
		if met[what] < 40 {
			t.Errorf("%s: %d", what, met[what])
		}
	}
}
