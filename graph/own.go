package graph

import (
	"strings"

	"loanword/api"
	"loanword/types"
)

// Own answers the same unit in memory of its own.
func Own(u api.Unit) (api.Unit, api.Errno) {
	if !May(u) {
		return api.Unit{}, api.ErrArg
	}
	return api.Unit{
		Structs: each(u.Structs, ownStruct),
		Fns:     each(u.Fns, ownGraph),
		Main:    u.Main,
	}, api.OK
}

// each answers a new list of what own answers of each of l. Of nothing it is nil: an empty list may be memory of whoever handed it in, too.
func each[T any](l []T, own func(T) T) []T {
	var all []T
	for _, x := range l {
		all = append(all, own(x))
	}
	return all
}

func ownStruct(s api.Struct) api.Struct {
	return api.Struct{Name: strings.Clone(s.Name), Fields: each(s.Fields, ownField)}
}

func ownField(f api.Field) api.Field {
	return api.Field{Name: strings.Clone(f.Name), Type: ownType(f.Type)}
}

// ownType is asked of types of a unit that may be: there is nothing to refuse.
func ownType(t api.Type) api.Type {
	t, _ = types.Own(t)
	return t
}

func ownGraph(g api.Graph) api.Graph {
	g.Name = strings.Clone(g.Name)
	g.Outlives = append([]api.Outlives(nil), g.Outlives...)
	g.Locals = each(g.Locals, ownType)
	g.Names = each(g.Names, strings.Clone)
	g.Points = each(g.Points, ownPoint)
	return g
}

func ownPoint(p api.Point) api.Point {
	p.To, p.From = ownPlace(p.To), ownPlace(p.From)
	p.A, p.B = ownOperand(p.A), ownOperand(p.B)
	p.Args = ownOperands(p.Args...)
	p.Sign = strings.Clone(p.Sign)
	return p
}

func ownOperands(l ...api.Operand) []api.Operand { return each(l, ownOperand) }

func ownOperand(o api.Operand) api.Operand {
	o.Place = ownPlace(o.Place)
	return o
}

func ownPlace(p api.Place) api.Place {
	p.Path = append([]api.Step(nil), p.Path...)
	return p
}
