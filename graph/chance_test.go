package graph_test

import (
	"maps"
	"math"
	"math/rand"
	"reflect"
	"slices"
	"strings"
	"testing"

	"loanword/api"
	"loanword/place"
	"loanword/types"
)

// chance makes units.
type chance struct{ *rand.Rand }

func byChance(seed int64) chance { return chance{rand.New(rand.NewSource(seed))} }

func pick[T any](c chance, l ...T) T { return l[c.Intn(len(l))] }

// unit is one that may be, with points of each Op.
func (c chance) unit() api.Unit {
	u := api.Unit{Structs: pick(c, nil, []api.Struct{structOf("i64", "Box<i64>"), structOf("#0", "Box<#1>", "bool")}, []api.Struct{structOf("bool"), structOf("#0", "i64"), structOf("Box<#2>", "#1")})}
	n := 1 + c.Intn(4)
	u.Main = c.Intn(n)
	for fn := range n {
		u.Fns = append(u.Fns, c.head(len(u.Structs), fn == u.Main))
	}
	for fn := range u.Fns {
		c.points(u, fn)
	}
	for i := range u.Structs {
		u.Structs[i].Name = pick(c, "", "S", "T")
	}
	return u
}

func (c chance) head(structs int, main bool) api.Graph {
	g := api.Graph{Name: pick(c, "f", "g", "", "\xff")}
	if !main {
		g.Lives, g.Params = c.Intn(4), c.Intn(4)
	}
	for n := range g.Params + 1 + c.Intn(10) {
		least := -1
		if n <= g.Params {
			least = 0
		}
		t := c.typ(structs, least, g.Lives, 4)
		if n == 0 && main {
			t = typeOf("i64")
		}
		g.Locals = append(g.Locals, t)
		g.Names = append(g.Names, pick(c, "", "x", "y"))
	}
	says := map[api.Outlives]bool{}
	for range c.Intn(3) {
		if g.Lives > 0 {
			says[api.Outlives{Long: c.Intn(g.Lives), Short: c.Intn(g.Lives)}] = true
		}
	}
	for _, t := range g.Locals[:g.Params+1] {
		l := types.Regions(t)
		for i := range l {
			for j := range i {
				says[api.Outlives{Long: l[i], Short: l[j]}] = true
			}
		}
	}
	g.Outlives = followed(says)
	return g
}

// followed is all that follows of what is said, sorted.
func followed(says map[api.Outlives]bool) []api.Outlives {
	for before := -1; before != len(says); {
		before = len(says)
		for a := range maps.Clone(says) {
			for b := range maps.Clone(says) {
				if a.Short == b.Long {
					says[api.Outlives{Long: a.Long, Short: b.Short}] = true
				}
			}
		}
	}
	var l []api.Outlives
	for o := range says {
		if o.Long != o.Short {
			l = append(l, o)
		}
	}
	slices.SortFunc(l, func(a, b api.Outlives) int { return (a.Long-b.Long)*100 + a.Short - b.Short })
	return l
}

// typ is a type with regions from least to lives - 1.
func (c chance) typ(structs, least, lives, deep int) api.Type {
	switch k := c.Intn(6); {
	case k == 0 && deep > 0:
		return api.Type{Kind: api.TyBox, Of: []api.Type{c.typ(structs, least, lives, deep-1)}}
	case k < 3 && deep > 0 && least < lives:
		return api.Type{Kind: api.TyRef, Mut: c.Intn(2) == 0, Region: least + c.Intn(lives-least), Of: []api.Type{c.typ(structs, least, lives, deep-1)}}
	case k == 3 && structs > 0:
		return api.Type{Kind: api.TyStruct, Struct: c.Intn(structs)}
	case k == 4:
		return typeOf("bool")
	}
	return typeOf("i64")
}

// found is a place of a graph, with the text of its type and how it goes.
type found struct {
	place      api.Place
	text, goes string
}

// maker makes points of a graph.
type maker struct {
	chance
	plain
	places []found
}

func (c chance) points(u api.Unit, fn int) {
	m := maker{chance: c, plain: plain{u, fn}}
	for _, p := range allPlaces(u, fn, 3) {
		text, goes := m.typed(p)
		m.places = append(m.places, found{p, text, goes})
	}
	n := 1 + c.Intn(20)
	for q := range n {
		p, ok := api.Point{}, false
		for !ok {
			p, ok = m.point()
		}
		p.Next, p.At = pick(c, q+1, q+1, c.Intn(n)), c.Intn(1000)
		if p.Op == api.Branch {
			p.Else = pick(c, p.Next, c.Intn(n))
		}
		if p.Op == api.Return {
			p.Next = 0
		}
		p.Next %= n
		p.Else %= n
		u.Fns[fn].Points = append(u.Fns[fn].Points, p)
	}
}

// some is a place for which ask holds.
func (m maker) some(ask func(f found) bool) (found, bool) {
	for range 40 {
		if f := pick(m.chance, m.places...); ask(f) {
			return f, true
		}
	}
	return found{}, false
}

// operand is one of a type, if there is one.
func (m maker) operand(text string) (api.Operand, bool) {
	if text == "i64" && m.Intn(2) == 0 {
		return api.Operand{Kind: api.ConstInt, N: pick(m.chance, m.Int63n(20)-10, int64(m.Uint64()), math.MinInt64, math.MaxInt64)}, true
	}
	if text == "bool" && m.Intn(2) == 0 {
		return api.Operand{Kind: api.ConstBool, N: m.Int63n(2)}, true
	}
	for range 40 {
		f := pick(m.chance, m.places...)
		for _, kind := range []api.OperandKind{api.Copy, api.Move} {
			if o := (api.Operand{Kind: kind, Place: f.place}); m.plain.operand(o) == text {
				return o, true
			}
		}
	}
	return api.Operand{}, false
}

// operands are some of these types, if there are.
func (m maker) operands(texts string) ([]api.Operand, bool) {
	var l []api.Operand
	for _, text := range strings.Split(texts, ";") {
		if text == "" {
			continue
		}
		o, ok := m.operand(text)
		if !ok {
			return nil, false
		}
		l = append(l, o)
	}
	return l, true
}

// point tries to make one.
func (m maker) point() (api.Point, bool) {
	p := api.Point{Op: api.PointOp(1 + m.Intn(14))}
	to, _ := m.some(func(f found) bool { return !strings.Contains(f.goes, "3") })
	if strings.Contains(rows[p.Op], "To") {
		p.To = to.place
	}
	asked := ""
	switch p.Op {
	case api.Use:
		asked = to.text
	case api.Binary:
		row := pick(m.chance, strings.Fields(binaries)...)
		p.Sign = strings.Trim(row[strings.Index(row, "=")+1:], "i64bol")
		side, _, _ := strings.Cut(row[strings.Index(row, "=")+1:], p.Sign)
		asked = side + ";" + side
	case api.Unary:
		p.Sign = pick(m.chance, "-", "!")
		asked = to.text
	case api.Box:
		asked = strings.TrimSuffix(strings.TrimPrefix(to.text, "Box<"), ">")
	case api.Borrow:
		p.Mut = strings.HasPrefix(to.text, "&mut ")
		from, _ := m.some(func(f found) bool {
			return to.text == "&mut "+f.text || to.text == "&"+f.text || to.text == "& "+f.text
		})
		p.From = from.place
	case api.Make:
		if to.text == "" || to.text[0] != '#' {
			return p, false
		}
		p.Struct = number(to.text[1:])
		asked = m.fields(p.Struct)
	case api.Call:
		p.Fn = m.Intn(len(m.u.Fns))
		answer, rest, _ := strings.Cut(m.signature(p.Fn), ";")
		to, _ = m.some(func(f found) bool { return f.text == answer && !strings.Contains(f.goes, "3") })
		p.To, asked = to.place, rest
	case api.Print:
		asked = "i64"
	case api.Drop, api.Dead:
		p.From = pick(m.chance, m.places...).place
	case api.Branch:
		asked = "bool"
	}
	l, ok := m.operands(asked)
	switch {
	case !ok || len(l) == 0 && strings.Contains(rows[p.Op], " A") || len(l) > 1 && p.Op == api.Use:
		return p, false
	case strings.Contains(rows[p.Op], "Args"):
		p.Args = l
	case len(l) > 0:
		p.A = l[0]
		if len(l) > 1 {
			p.B = l[1]
		}
	}
	return p, m.mayStand(p)
}

// mayStand: would p be as its Op asks, as the last point of the graph?
func (m maker) mayStand(p api.Point) bool {
	x := plain{api.Unit{Structs: m.u.Structs, Fns: slices.Clone(m.u.Fns)}, m.fn}
	x.u.Fns[m.fn].Points = []api.Point{p}
	return x.point(0)
}

// P10.1, P10.4: units by chance may be.
func TestUnitsByChance(t *testing.T) {
	c := byChance(101)
	met := map[api.PointOp]int{}
	for range 400 {
		u := c.unit()
		if !mustCheck(t, u) {
			t.Fatal("refused")
		}
		for _, g := range u.Fns {
			for _, p := range g.Points {
				met[p.Op]++
			}
		}
	}
	for op := range rows {
		if met[op] < 100 {
			t.Errorf("Op %d: %d of %v", op, met[op], met)
		}
	}
}

// leaves are the parts of a value that can be changed, as what changes them.
func (c chance) leaves(v reflect.Value) []func() {
	var l []func()
	switch v.Kind() {
	case reflect.Struct:
		for i := range v.NumField() {
			l = append(l, c.leaves(v.Field(i))...)
		}
	case reflect.Slice:
		l = append(l, func() { c.changeList(v) })
		for i := range v.Len() {
			l = append(l, c.leaves(v.Index(i))...)
		}
	case reflect.String:
		l = append(l, func() { v.SetString(pick(c, append(signs, "x", "main")...)) })
	case reflect.Bool:
		l = append(l, func() { v.SetBool(!v.Bool()) })
	case reflect.Uint8:
		l = append(l, func() { v.SetUint(uint64(c.Intn(16))) })
	default:
		l = append(l, func() {
			v.SetInt(pick(c, v.Int()+1, v.Int()-1, 0, 1, -1, -2, 2, 3, 8, 9, 512, 1024, math.MaxInt64, math.MinInt64))
		})
	}
	return l
}

// changeList takes something from a list, or lays something into it.
func (c chance) changeList(v reflect.Value) {
	n := v.Len()
	switch k := c.Intn(5); {
	case k == 0:
		v.Set(reflect.Append(v, reflect.Zero(v.Type().Elem())))
	case n == 0:
		v.Set(reflect.MakeSlice(v.Type(), 0, 0))
	case k == 1:
		v.Set(v.Slice(0, n-1))
	case k == 2:
		v.Set(reflect.Append(v, owned(v.Index(c.Intn(n)))))
	case k == 3:
		v.Index(c.Intn(n)).Set(owned(v.Index(c.Intn(n))))
	default:
		v.Set(reflect.Zero(v.Type()))
	}
}

// spoilt is u with some change, which may be none that matters.
func (c chance) spoilt(u api.Unit) api.Unit {
	u = own(u)
	for range 1 + c.Intn(2) {
		g := &u.Fns[c.Intn(len(u.Fns))]
		part := reflect.ValueOf(&u).Elem()
		switch {
		case c.Intn(20) == 0:
		case c.Intn(4) > 0 && len(g.Points) > 0:
			part = reflect.ValueOf(&g.Points[c.Intn(len(g.Points))]).Elem()
		default:
			part = reflect.ValueOf(g).Elem().FieldByName(pick(c, "Lives", "Outlives", "Params", "Locals", "Names", "Points"))
		}
		pick(c, c.leaves(part)...)()
		if len(u.Fns) == 0 {
			break
		}
	}
	return u
}

// P10.1: units by chance with something changed: whatever is first not so is told.
func TestSpoiltUnits(t *testing.T) {
	c := byChance(102)
	may, heads, points, units := 0, 0, 0, 0
	for range 200 {
		u := c.unit()
		for range 60 {
			x := c.spoilt(u)
			fn, q, ok := plainCheck(x)
			mustCheck(t, x)
			switch {
			case ok:
				may++
			case q >= 0:
				points++
			case fn >= 0:
				heads++
			default:
				units++
			}
		}
	}
	if may < 700 || heads < 700 || points < 2500 || units < 20 {
		t.Errorf("may %d, heads %d, points %d, units %d", may, heads, points, units)
	}
}

// placesOf are the places that a point has.
func placesOf(p api.Point) []api.Place {
	var l []api.Place
	row := strings.Fields(rows[p.Op])
	if slices.Contains(row, "To") {
		l = append(l, p.To)
	}
	if slices.Contains(row, "From") {
		l = append(l, p.From)
	}
	for _, o := range append([]api.Operand{p.A, p.B}, p.Args...) {
		if o.Kind == api.Copy || o.Kind == api.Move {
			l = append(l, o.Place)
		}
	}
	return l
}

func isPlace(u api.Unit, fn int, p api.Place) bool {
	return place.May(u.Structs, u.Fns[fn].Locals, p)
}
