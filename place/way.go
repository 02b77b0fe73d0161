package place

import (
	"loanword/api"
	"loanword/types"
)

// How a step goes.
const (
	byField = iota
	byBox
	byMut
	byShared
)

func isReference(goes int) bool { return goes == byMut || goes == byShared }

// way is where a place goes: the type that it comes to, and how each of its steps goes.
type way struct {
	to   api.Type
	goes []int
}

// follow answers the ways of some places among locals, or ErrArg, if one of them, or what they stand among, may not be.
func follow(s []api.Struct, locals []api.Type, places ...api.Place) ([]way, api.Errno) {
	if !mayAll(s, locals) {
		return nil, api.ErrArg
	}
	var l []way
	for _, p := range places {
		w, ok := wayOf(s, locals, p)
		if !ok {
			return nil, api.ErrArg
		}
		l = append(l, w)
	}
	return l, api.OK
}

// mayAll tells whether the structs may be, and all locals' types among them. The structs are asked once: of many locals each would ask them again.
func mayAll(s []api.Struct, locals []api.Type) bool {
	if _, e := types.Structs(s); e != api.OK {
		return false
	}
	for _, t := range locals {
		if !mayAmong(len(s), t) {
			return false
		}
	}
	return true
}

// mayAmong tells whether t may be among so many structs. A type is alike itself just if it may be among as many as there can be; what is left to ask is its struct.
func mayAmong(structs int, t api.Type) bool {
	if !types.Alike(t, t) {
		return false
	}
	for t.Kind == api.TyBox || t.Kind == api.TyRef {
		t = t.Of[0]
	}
	return t.Kind != api.TyStruct || t.Struct < structs
}

// wayOf is the way of p, of structs and locals that may be, and whether p may be among them.
func wayOf(s []api.Struct, locals []api.Type, p api.Place) (way, bool) {
	if p.Local < 0 || p.Local >= len(locals) || len(p.Path) > api.MaxSteps {
		return way{}, false
	}
	w := way{to: locals[p.Local]}
	for _, step := range p.Path {
		to, goes, ok := stepFrom(s, w.to, step)
		if !ok {
			return way{}, false
		}
		w.to, w.goes = to, append(w.goes, goes)
	}
	return w, true
}

// stepFrom tells where a step goes from t, and how, if it goes.
func stepFrom(s []api.Struct, t api.Type, step api.Step) (to api.Type, goes int, ok bool) {
	switch {
	case t.Kind == api.TyStruct:
		fields := s[t.Struct].Fields
		if step < 0 || int(step) >= len(fields) {
			return api.Type{}, 0, false
		}
		return fields[step].Type, byField, true
	case step != api.Deref:
		return api.Type{}, 0, false
	case t.Kind == api.TyBox:
		return t.Of[0], byBox, true
	case t.Kind == api.TyRef && t.Mut:
		return t.Of[0], byMut, true
	case t.Kind == api.TyRef:
		return t.Of[0], byShared, true
	}
	return api.Type{}, 0, false
}
