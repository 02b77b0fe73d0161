package typing

import (
	"slices"

	"loanword/api"
)

// same tells whether x, whatever it has, says what want says of the same tree. It goes no deeper than want does.
func same(x, want api.Typed) bool {
	return slices.EqualFunc(x.Decls.Structs, want.Decls.Structs, sameStruct) &&
		slices.EqualFunc(x.Decls.Sigs, want.Decls.Sigs, sameSig) &&
		slices.EqualFunc(x.Vars, want.Vars, sameVars) &&
		slices.EqualFunc(x.Of, want.Of, sameType) &&
		slices.Equal(x.Means, want.Means)
}

func sameStruct(a, b api.Struct) bool {
	return a.Name == b.Name && slices.EqualFunc(a.Fields, b.Fields, sameField)
}

func sameSig(a, b api.Sig) bool {
	return a.Name == b.Name && a.Count == b.Count && a.Node == b.Node &&
		slices.Equal(a.Lives, b.Lives) && slices.Equal(a.Outlives, b.Outlives) &&
		slices.EqualFunc(a.Params, b.Params, sameField) && sameType(a.Answer, b.Answer)
}

func sameField(a, b api.Field) bool {
	return a.Name == b.Name && sameType(a.Type, b.Type)
}

func sameVars(a, b []api.Var) bool { return slices.EqualFunc(a, b, sameVar) }

func sameVar(a, b api.Var) bool {
	return a.Name == b.Name && a.Node == b.Node && sameType(a.Type, b.Type)
}

// sameType is asked of zero types, too, which may not be by layer 6.
func sameType(a, b api.Type) bool {
	return a.Kind == b.Kind && a.Mut == b.Mut && a.Region == b.Region && a.Struct == b.Struct &&
		slices.EqualFunc(a.Of, b.Of, sameType)
}
