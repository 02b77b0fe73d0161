package graph

import (
	"slices"

	"loanword/api"
	"loanword/types"
)

// scene is a point that is looked at, and what it stands among. What is asked of it is asked in one order: what its places and operands are is laid down for what is asked later.
type scene struct {
	api.Point
	unit  api.Unit
	graph api.Graph
	drops [api.MaxItems]bool // which structs need dropping

	to, from way
	operands []api.Type
}

// fieldsMay tells whether the point has no field that its Op does not name.
func (x *scene) fieldsMay() bool {
	return filledOf(x.Point)&^fieldsOf(x.Op) == 0 && x.At >= 0
}

// goesOn tells whether the point goes on to points of the graph, a Return to none. (What is not named is 0, and a graph has a point 0.)
func (x *scene) goesOn() bool {
	return x.isPoint(x.Next) && x.isPoint(x.Else) && (x.Op != api.Return || x.Next == 0)
}

func (x *scene) isPoint(q int) bool { return q >= 0 && q < len(x.graph.Points) }

func (x *scene) placesMay() bool {
	var ok bool
	if has(x.Op, hasTo) {
		if x.to, ok = x.wayOf(x.To); !ok || x.to.byShared {
			return false
		}
	}
	if has(x.Op, hasFrom) {
		if x.from, ok = x.wayOf(x.From); !ok {
			return false
		}
	}
	return true
}

func (x *scene) operandsMay() bool {
	var ok bool
	x.operands, ok = x.typesOf(operandsOf(x.Point)...)
	return ok
}

// typesOf answers the types of these operands, and whether each is as its kind asks.
func (x *scene) typesOf(l ...api.Operand) ([]api.Type, bool) {
	var found []api.Type
	for _, o := range l {
		t, ok := x.typeOf(o)
		if !ok {
			return nil, false
		}
		found = append(found, t)
	}
	return found, true
}

func (x *scene) typeOf(o api.Operand) (api.Type, bool) {
	switch o.Kind {
	case api.ConstInt:
		return api.Type{Kind: api.TyInt}, isNoPlace(o.Place)
	case api.ConstBool:
		return api.Type{Kind: api.TyBool}, isNoPlace(o.Place) && (o.N == 0 || o.N == 1)
	case api.Copy:
		w, ok := x.wayOf(o.Place)
		return w.to, ok && o.N == 0 && types.Copies(w.to)
	case api.Move:
		w, ok := x.wayOf(o.Place)
		return w.to, ok && o.N == 0 && !types.Copies(w.to) && !w.byReference
	}
	return api.Type{}, false
}

// opMay tells whether the types of the places and operands are what the Op asks.
func (x *scene) opMay() bool {
	to, from := x.to.to, x.from.to
	switch x.Op {
	case api.Use:
		return types.Alike(to, x.operands[0])
	case api.Binary:
		return x.binaryMay()
	case api.Unary:
		return x.Sign == "-" && areAll(api.TyInt, to, x.operands[0]) || x.Sign == "!" && areAll(api.TyBool, to, x.operands[0])
	case api.Borrow:
		return to.Kind == api.TyRef && to.Mut == x.Mut && types.Alike(to.Of[0], from) && !(x.Mut && x.from.byShared)
	case api.Box:
		return to.Kind == api.TyBox && types.Alike(to.Of[0], x.operands[0])
	case api.Make:
		return x.makeMay()
	case api.Call:
		return x.callMay()
	case api.Read:
		return areAll(api.TyInt, to)
	case api.Print:
		return areAll(api.TyInt, x.operands...)
	case api.Drop:
		return x.needsDropping(from) && !x.from.byReference
	case api.Dead:
		return x.From.Local != 0 && len(x.From.Path) == 0
	case api.Branch:
		return areAll(api.TyBool, x.operands...)
	case api.Goto, api.Return:
		return true
	}
	return false
}

// areAll tells whether all of these types are of one kind.
func areAll(kind api.TypeKind, l ...api.Type) bool {
	for _, t := range l {
		if t.Kind != kind {
			return false
		}
	}
	return true
}

func (x *scene) binaryMay() bool {
	ints, bools := areAll(api.TyInt, x.operands...), areAll(api.TyBool, x.operands...)
	switch x.Sign {
	case "+", "-", "*", "/", "%":
		return ints && areAll(api.TyInt, x.to.to)
	case "==", "!=":
		return (ints || bools) && areAll(api.TyBool, x.to.to)
	case "<", "<=", ">", ">=":
		return ints && areAll(api.TyBool, x.to.to)
	}
	return false
}

func (x *scene) makeMay() bool {
	to := x.to.to
	if to.Kind != api.TyStruct || to.Struct != x.Struct {
		return false
	}
	return slices.EqualFunc(x.unit.Structs[x.Struct].Fields, x.operands, func(f api.Field, t api.Type) bool {
		return types.Alike(f.Type, t)
	})
}

func (x *scene) callMay() bool {
	if x.Fn < 0 || x.Fn >= len(x.unit.Fns) {
		return false
	}
	g := x.unit.Fns[x.Fn]
	return types.Alike(g.Locals[0], x.to.to) && slices.EqualFunc(g.Locals[1:1+g.Params], x.operands, types.Alike)
}

func (x *scene) needsDropping(t api.Type) bool {
	return t.Kind == api.TyBox || t.Kind == api.TyStruct && x.drops[t.Struct]
}
