package graph

import (
	"loanword/api"
	"loanword/types"
)

// Check tells whether u may be; if not, where it is first not so.
func Check(u api.Unit) (fn, at int, e api.Errno) {
	// Each is asked of the whole unit ahead of the next: heads are read by the help of structs that may be, points by that of all heads.
	for _, fault := range [...]func(api.Unit) (fn, at int, found bool){unitFault, headFault, pointFault} {
		if fn, at, found := fault(u); found {
			return fn, at, api.ErrGraph
		}
	}
	return 0, 0, api.OK
}

// May tells whether u may be.
func May(u api.Unit) bool {
	_, _, e := Check(u)
	return e == api.OK
}

// unitFault looks at what is neither a graph's nor a point's.
func unitFault(u api.Unit) (fn, at int, found bool) {
	_, e := types.Structs(u.Structs)
	if e != api.OK || len(u.Fns) > api.MaxItems || u.Main < 0 || u.Main >= len(u.Fns) {
		return -1, -1, true
	}
	return 0, 0, false
}

// headFault finds the first graph whose head may not be.
func headFault(u api.Unit) (fn, at int, found bool) {
	for fn, g := range u.Fns {
		h := head{Graph: g, structs: u.Structs, isMain: fn == u.Main}
		for _, may := range [...]func(head) bool{head.countsMay, head.localsMay, head.outlivesMay, head.loansMay, head.mainMay} {
			if !may(h) {
				return fn, -1, true
			}
		}
	}
	return 0, 0, false
}

// pointFault finds the first point that is not as its Op asks.
func pointFault(u api.Unit) (fn, at int, found bool) {
	drops := dropsOf(u.Structs)
	var x scene // one for all points: one each would be new memory for each of very many
search:
	for n, g := range u.Fns {
		for q, p := range g.Points {
			x = scene{Point: p, unit: u, graph: g, drops: drops}
			for _, may := range [...]func(*scene) bool{(*scene).fieldsMay, (*scene).goesOn, (*scene).placesMay, (*scene).operandsMay, (*scene).opMay} {
				if !may(&x) {
					fn, at, found = n, q, true
					break search
				}
			}
		}
	}
	return fn, at, found
}

// dropsOf tells of each struct whether it needs dropping: once, since to ask it looks at all structs.
func dropsOf(structs []api.Struct) (drops [api.MaxItems]bool) {
	for n := range structs {
		drops[n], _ = types.Drops(structs, api.Type{Kind: api.TyStruct, Struct: n})
	}
	return drops
}
