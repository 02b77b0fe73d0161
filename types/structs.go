package types

import "loanword/api"

// Structs tells whether the structs may be; if not, which one is at fault.
func Structs(s []api.Struct) (at int, e api.Errno) {
	if len(s) > api.MaxItems {
		return api.MaxItems, api.ErrArg
	}
	// One fault after the other, over all structs each: to ask for words is safe only where no struct is endless, and for that only where all numbers are structs'.
	for _, fault := range []func([]api.Struct, int) bool{hasWrongFields, isEndless, isLarge} {
		for n := range s {
			if fault(s, n) {
				return n, api.ErrArg
			}
		}
	}
	return 0, api.OK
}

// May tells whether the structs may be, and t among them.
func May(s []api.Struct, t api.Type) bool {
	_, e := Structs(s)
	return e == api.OK && mayAmong(len(s), t)
}

// Words tells how many words t has.
func Words(s []api.Struct, t api.Type) (int, api.Errno) {
	if !May(s, t) {
		return 0, api.ErrArg
	}
	return words(s, t, &[api.MaxItems]int{}), api.OK
}

// Drops tells whether t needs dropping.
func Drops(s []api.Struct, t api.Type) (bool, api.Errno) {
	if !May(s, t) {
		return false, api.ErrArg
	}
	return drops(s, t), api.OK
}

// Fields answers the types of the fields of the struct t.
func Fields(s []api.Struct, t api.Type) ([]api.Type, api.Errno) {
	if t.Kind != api.TyStruct || !May(s, t) {
		return nil, api.ErrArg
	}
	var l []api.Type
	for _, f := range s[t.Struct].Fields {
		l = append(l, owned(f.Type))
	}
	return l, api.OK
}

// hasWrongFields tells whether the struct n has too few or too many fields, or one of a type that it may not have.
func hasWrongFields(s []api.Struct, n int) bool {
	fields := s[n].Fields
	if len(fields) < 1 || len(fields) > api.MaxFields {
		return true
	}
	for _, f := range fields {
		if !mayAmong(len(s), f.Type) || hasReference(f.Type) {
			return true
		}
	}
	return false
}

// hasReference is asked of a type that may be.
func hasReference(t api.Type) bool {
	met := false
	eachRegion(t, func(int) { met = true })
	return met
}

// isEndless tells whether the struct n stands within itself.
func isEndless(s []api.Struct, n int) bool {
	var met [api.MaxItems]bool
	markWithin(s, n, &met)
	return met[n]
}

// markWithin marks all structs that stand within the struct n, not behind a box. What is marked is not gone into again: so it ends, and soon.
func markWithin(s []api.Struct, n int, met *[api.MaxItems]bool) {
	for _, f := range s[n].Fields {
		if t := f.Type; t.Kind == api.TyStruct && !met[t.Struct] {
			met[t.Struct] = true
			markWithin(s, t.Struct, met)
		}
	}
}

func isLarge(s []api.Struct, n int) bool {
	t := api.Type{Kind: api.TyStruct, Struct: n}
	return words(s, t, &[api.MaxItems]int{}) > api.MaxWords
}

// words counts no further than one above MaxWords: structs within structs soon have more words than a number holds.
// It keeps what it found of a struct in known, where 0 says nothing yet: each struct is counted once, however often it stands in others.
func words(s []api.Struct, t api.Type, known *[api.MaxItems]int) int {
	if t.Kind != api.TyStruct {
		return 1
	}
	if known[t.Struct] == 0 {
		n := 0
		for _, f := range s[t.Struct].Fields {
			n += words(s, f.Type, known)
		}
		known[t.Struct] = min(n, api.MaxWords+1)
	}
	return known[t.Struct]
}

// drops goes into fields as often as they stand there: structs that may be have few words, so this is not often.
func drops(s []api.Struct, t api.Type) bool {
	switch t.Kind {
	case api.TyBox:
		return true
	case api.TyStruct:
		for _, f := range s[t.Struct].Fields {
			if drops(s, f.Type) {
				return true
			}
		}
	}
	return false
}
