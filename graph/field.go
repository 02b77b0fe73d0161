package graph

import "loanword/api"

// field is one of the fields that a point of some Op has and one of another Op has not; a sum of them is several.
type field uint16

// The fields. (Op, At and Next are every point's.)
const (
	hasTo field = 1 << iota
	hasA
	hasB
	hasArgs
	hasSign
	hasFrom
	hasMut
	hasFn
	hasStruct
	hasElse
)

// fieldsOf answers the fields that a point of that Op has.
func fieldsOf(op api.PointOp) field {
	switch op {
	case api.Use, api.Box:
		return hasTo | hasA
	case api.Binary:
		return hasTo | hasA | hasB | hasSign
	case api.Unary:
		return hasTo | hasA | hasSign
	case api.Borrow:
		return hasTo | hasFrom | hasMut
	case api.Make:
		return hasTo | hasArgs | hasStruct
	case api.Call:
		return hasTo | hasArgs | hasFn
	case api.Read:
		return hasTo
	case api.Print:
		return hasA
	case api.Drop, api.Dead:
		return hasFrom
	case api.Branch:
		return hasA | hasElse
	}
	return 0
}

// has tells whether a point of that Op has the field f.
func has(op api.PointOp, f field) bool { return fieldsOf(op)&f != 0 }

// filledOf answers the fields of p that are not zero, whatever its Op is.
func filledOf(p api.Point) field {
	var filled field
	for _, x := range [...]struct {
		field  field
		isZero bool
	}{
		{hasTo, isNoPlace(p.To)},
		{hasA, isNoOperand(p.A)},
		{hasB, isNoOperand(p.B)},
		{hasArgs, len(p.Args) == 0},
		{hasSign, p.Sign == ""},
		{hasFrom, isNoPlace(p.From)},
		{hasMut, !p.Mut},
		{hasFn, p.Fn == 0},
		{hasStruct, p.Struct == 0},
		{hasElse, p.Else == 0},
	} {
		if !x.isZero {
			filled |= x.field
		}
	}
	return filled
}

func isNoPlace(p api.Place) bool { return p.Local == 0 && len(p.Path) == 0 }

func isNoOperand(o api.Operand) bool {
	return o.Kind == api.NoOperand && o.N == 0 && isNoPlace(o.Place)
}

// operandsOf answers the operands that p has, in order.
func operandsOf(p api.Point) []api.Operand {
	var l []api.Operand
	if has(p.Op, hasA) {
		l = append(l, p.A)
	}
	if has(p.Op, hasB) {
		l = append(l, p.B)
	}
	if has(p.Op, hasArgs) {
		l = append(l, p.Args...)
	}
	return l
}
