package types

import "loanword/api"

// Regions answers the regions of t, in order.
func Regions(t api.Type) []int {
	if !maySomewhere(t) {
		return nil
	}
	var l []int
	eachRegion(t, func(region int) { l = append(l, region) })
	return l
}

// Number answers t with its regions numbered from a number on, and the next number.
func Number(t api.Type, from int) (api.Type, int, api.Errno) {
	if !maySomewhere(t) || from < 0 || from > api.MaxRegions {
		return api.Type{}, 0, api.ErrArg
	}
	next := from
	x := turned(t, func(int) int {
		next++
		return next - 1
	})
	return x, next, api.OK
}

// Anew answers t with these regions, in order.
func Anew(t api.Type, regions ...int) (api.Type, api.Errno) {
	if !maySomewhere(t) || len(regions) != len(Regions(t)) {
		return api.Type{}, api.ErrArg
	}
	for _, region := range regions {
		if region < -1 {
			return api.Type{}, api.ErrArg
		}
	}
	met := 0
	return turned(t, func(int) int {
		met++
		return regions[met-1]
	}), api.OK
}

// Asks answers the constraints under which a value of type a stands where b is asked.
func Asks(a, b api.Type) ([]api.Constraint, api.Errno) {
	if !Alike(a, b) || hasBare(a) || hasBare(b) {
		return nil, api.ErrArg
	}
	var l []api.Constraint
	asks(a, b, false, func(long, short int) {
		l = append(l, api.Constraint{Long: long, Short: short})
	})
	return l, api.OK
}

// asks tells the constraints one by one. What stands behind a mutable reference can be read and laid by it, so there each region must have all of the other one.
func asks(a, b api.Type, behindMut bool, tell func(long, short int)) {
	switch a.Kind {
	case api.TyBox:
		asks(a.Of[0], b.Of[0], behindMut, tell)
	case api.TyRef:
		tell(a.Region, b.Region)
		if behindMut {
			tell(b.Region, a.Region)
		}
		asks(a.Of[0], b.Of[0], behindMut || a.Mut, tell)
	}
}

// hasBare tells whether a reference in t has no region yet.
func hasBare(t api.Type) bool {
	bare := false
	eachRegion(t, func(region int) { bare = bare || region < 0 })
	return bare
}

// eachRegion tells the regions of t, from the outermost one in, of a type that may be.
func eachRegion(t api.Type, tell func(region int)) {
	switch t.Kind {
	case api.TyBox:
		eachRegion(t.Of[0], tell)
	case api.TyRef:
		tell(t.Region)
		eachRegion(t.Of[0], tell)
	}
}

// owned is t in memory of its own, of a type that may be.
func owned(t api.Type) api.Type {
	return turned(t, func(region int) int { return region })
}

// turned is t in memory of its own, each region turned into what turn answers of it, from the outermost one in.
func turned(t api.Type, turn func(region int) int) api.Type {
	switch t.Kind {
	case api.TyBox:
		t.Of = []api.Type{turned(t.Of[0], turn)}
	case api.TyRef:
		t.Region = turn(t.Region)
		t.Of = []api.Type{turned(t.Of[0], turn)}
	default:
		t.Of = nil // an empty list may be memory of whoever handed it in, too
	}
	return t
}
