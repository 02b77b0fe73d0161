package graph_test

import (
	"fmt"
	"maps"
	"reflect"
	"slices"
	"strings"

	"loanword/api"
	"loanword/place"
	"loanword/types"
)

// The oracle: what the chapter asks of a unit, word by word, by names of fields and texts of types.

// rows are the chapter's table: what a point of an Op has.
var rows = map[api.PointOp]string{
	api.Use: "To A", api.Binary: "To A B Sign", api.Unary: "To A Sign", api.Borrow: "To From Mut", api.Box: "To A",
	api.Make: "To Args Struct", api.Call: "To Args Fn", api.Read: "To", api.Print: "A", api.Drop: "From", api.Dead: "From",
	api.Branch: "A Else", api.Goto: "", api.Return: "",
}

// plainCheck is what Check tells: the function, the point, whether u may be.
func plainCheck(u api.Unit) (fn, q int, ok bool) {
	if !plainUnit(u) {
		return -1, -1, false
	}
	for fn := range u.Fns {
		if !plainHead(u, fn) {
			return fn, -1, false
		}
	}
	for fn, g := range u.Fns {
		for q := range g.Points {
			if !(plain{u, fn}).point(q) {
				return fn, q, false
			}
		}
	}
	return 0, 0, true
}

func plainUnit(u api.Unit) bool {
	_, e := types.Structs(u.Structs)
	n := len(u.Fns)
	return e == api.OK && n >= 1 && n <= 32 && 0 <= u.Main && u.Main < n
}

func plainHead(u api.Unit, fn int) bool {
	g := u.Fns[fn]
	if g.Lives < 0 || g.Lives > 8 || g.Params < 0 || g.Params > 8 {
		return false
	}
	if len(g.Locals) <= g.Params || len(g.Locals) > 512 || len(g.Names) != len(g.Locals) {
		return false
	}
	for n, t := range g.Locals {
		if !types.May(u.Structs, t) {
			return false
		}
		l := types.Regions(t)
		if len(l) > 0 && (slices.Max(l) >= g.Lives || n <= g.Params && slices.Min(l) < 0) {
			return false
		}
	}
	loans := 0
	for _, p := range g.Points {
		if p.Op == api.Borrow {
			loans++
		}
	}
	if len(g.Points) < 1 || len(g.Points) > 1024 || loans > 256 {
		return false
	}
	if fn == u.Main && (g.Lives != 0 || g.Params != 0 || plainText(g.Locals[0]) != "i64") {
		return false
	}
	return plainOutlives(g)
}

func plainOutlives(g api.Graph) bool {
	says := map[api.Outlives]bool{}
	for i, o := range g.Outlives {
		if o.Long < 0 || o.Long >= g.Lives || o.Short < 0 || o.Short >= g.Lives || o.Long == o.Short {
			return false
		}
		if i > 0 && (o.Long < g.Outlives[i-1].Long || o.Long == g.Outlives[i-1].Long && o.Short <= g.Outlives[i-1].Short) {
			return false
		}
		says[o] = true
	}
	must := maps.Clone(says)
	for x := range says {
		for y := range says {
			if x.Short == y.Long {
				must[api.Outlives{Long: x.Long, Short: y.Short}] = true
			}
		}
	}
	for _, t := range g.Locals[:g.Params+1] {
		l := types.Regions(t)
		for i := range l {
			for j := range i {
				must[api.Outlives{Long: l[i], Short: l[j]}] = true
			}
		}
	}
	for o := range must {
		if o.Long != o.Short && !says[o] {
			return false
		}
	}
	return true
}

// plainText is the text of a type without its regions: that of two is the same just if they are alike.
func plainText(t api.Type) string {
	bare := make([]int, len(types.Regions(t)))
	for i := range bare {
		bare[i] = -1
	}
	t, _ = types.Anew(t, bare...)
	s, _ := types.Text(t)
	return s
}

// plain is a graph of a unit whose heads may be.
type plain struct {
	u  api.Unit
	fn int
}

func (x plain) graph() api.Graph { return x.u.Fns[x.fn] }

// typed is the text of a place's type, and how it goes; nothing of one that is none of the graph.
func (x plain) typed(p api.Place) (text, goes string) {
	if p.Local < 0 || p.Local >= len(x.graph().Locals) {
		return "", ""
	}
	p, locals := api.Place{Path: p.Path}, x.graph().Locals[p.Local:p.Local+1]
	t, e := place.Type(x.u.Structs, locals, p)
	if e != api.OK {
		return "", ""
	}
	l, _ := place.Goes(x.u.Structs, locals, p)
	return plainText(t), fmt.Sprint(l)
}

// operand is the text of an operand's type; nothing of one that is not as its kind asks.
func (x plain) operand(o api.Operand) string {
	none := o.Place.Local == 0 && len(o.Place.Path) == 0
	t, goes := x.typed(o.Place)
	copied := t == "i64" || t == "bool" || strings.HasPrefix(t, "&") && !strings.HasPrefix(t, "&mut ")
	switch {
	case o.Kind == api.ConstInt && none:
		return "i64"
	case o.Kind == api.ConstBool && none && (o.N == 0 || o.N == 1):
		return "bool"
	case o.Kind == api.Copy && o.N == 0 && copied:
		return t
	case o.Kind == api.Move && o.N == 0 && !copied && !strings.ContainsAny(goes, "23"):
		return t
	}
	return ""
}

func (x plain) point(q int) bool {
	p, row := x.graph().Points[q], ""
	row, ok := rows[p.Op]
	named := strings.Fields(row)
	if !ok || !restIsZero(p, named) || p.At < 0 {
		return false
	}
	n := len(x.graph().Points)
	if p.Op == api.Return && p.Next != 0 || p.Next < 0 || p.Next >= n || p.Else < 0 || p.Else >= n {
		return false
	}
	to, goes := x.typed(p.To)
	if slices.Contains(named, "To") && (to == "" || strings.Contains(goes, "3")) {
		return false
	}
	var operands []api.Operand
	if slices.Contains(named, "A") {
		operands = append(operands, p.A)
	}
	if slices.Contains(named, "B") {
		operands = append(operands, p.B)
	}
	var l []string
	for _, o := range append(operands, p.Args...) {
		l = append(l, x.operand(o))
	}
	return !slices.Contains(l, "") && x.asks(p, to, l)
}

// restIsZero: all fields but those that are named, and those that all points have.
func restIsZero(p api.Point, named []string) bool {
	v := owned(reflect.ValueOf(p)) // lists of nothing are nil
	for i := range v.NumField() {
		name := v.Type().Field(i).Name
		if !slices.Contains(append([]string{"Op", "At", "Next"}, named...), name) && !v.Field(i).IsZero() {
			return false
		}
	}
	return true
}

// asks is the table's last column, as what a point's types and its Sign must be put together.
func (x plain) asks(p api.Point, to string, l []string) bool {
	from, goes := x.typed(p.From)
	joined := strings.Join(l, ";")
	switch p.Op {
	case api.Use:
		return joined == to
	case api.Binary:
		return slices.Contains(strings.Fields(binaries), to+"="+l[0]+p.Sign+l[1])
	case api.Unary:
		return slices.Contains([]string{"i64-i64", "bool!bool"}, to+p.Sign+joined)
	case api.Borrow:
		return from != "" && (p.Mut && to == "&mut "+from && !strings.Contains(goes, "3") || !p.Mut && (to == "&"+from || to == "& "+from))
	case api.Box:
		return to == "Box<"+joined+">"
	case api.Make:
		return to == fmt.Sprint("#", p.Struct) && joined == x.fields(p.Struct)
	case api.Call:
		return p.Fn >= 0 && p.Fn < len(x.u.Fns) && strings.Join(append([]string{to}, l...), ";") == x.signature(p.Fn)
	case api.Read:
		return to == "i64"
	case api.Print:
		return joined == "i64"
	case api.Drop:
		t, _ := place.Type(x.u.Structs, x.graph().Locals, p.From)
		needs, _ := types.Drops(x.u.Structs, t)
		return from != "" && needs && !strings.ContainsAny(goes, "23")
	case api.Dead:
		return from != "" && p.From.Local > 0 && len(p.From.Path) == 0
	case api.Branch:
		return joined == "bool"
	}
	return true
}

const binaries = `i64=i64+i64 i64=i64-i64 i64=i64*i64 i64=i64/i64 i64=i64%i64
	bool=i64==i64 bool=i64!=i64 bool=i64<i64 bool=i64<=i64 bool=i64>i64 bool=i64>=i64 bool=bool==bool bool=bool!=bool`

func (x plain) fields(n int) string {
	var l []string
	for _, f := range x.u.Structs[n].Fields {
		l = append(l, plainText(f.Type))
	}
	return strings.Join(l, ";")
}

// signature is the answer's type, and those of the parameters.
func (x plain) signature(fn int) string {
	var l []string
	for _, t := range x.u.Fns[fn].Locals[:x.u.Fns[fn].Params+1] {
		l = append(l, plainText(t))
	}
	return strings.Join(l, ";")
}
