package graph

import (
	"slices"

	"loanword/api"
	"loanword/place"
	"loanword/types"
)

// Same tells whether both may be, and are the same.
func Same(a, b api.Unit) bool {
	return May(a) && May(b) && a.Main == b.Main &&
		slices.EqualFunc(a.Structs, b.Structs, sameStruct) && slices.EqualFunc(a.Fns, b.Fns, sameGraph)
}

func sameStruct(a, b api.Struct) bool {
	return a.Name == b.Name && slices.EqualFunc(a.Fields, b.Fields, sameField)
}

func sameField(a, b api.Field) bool {
	return a.Name == b.Name && types.Same(a.Type, b.Type)
}

func sameGraph(a, b api.Graph) bool {
	return a.Name == b.Name && a.Lives == b.Lives && a.Params == b.Params &&
		slices.Equal(a.Outlives, b.Outlives) && slices.EqualFunc(a.Locals, b.Locals, types.Same) &&
		slices.Equal(a.Names, b.Names) && slices.EqualFunc(a.Points, b.Points, samePoint)
}

func samePoint(a, b api.Point) bool {
	return a.Op == b.Op && a.Sign == b.Sign && a.Mut == b.Mut && a.Fn == b.Fn && a.Struct == b.Struct &&
		a.Next == b.Next && a.Else == b.Else && a.At == b.At &&
		place.Same(a.To, b.To) && place.Same(a.From, b.From) &&
		slices.EqualFunc(operandsOf(a), operandsOf(b), sameOperand)
}

func sameOperand(a, b api.Operand) bool {
	return a.Kind == b.Kind && a.N == b.N && place.Same(a.Place, b.Place)
}
