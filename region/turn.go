package region

import "loanword/api"

// turned is t in memory of its own, each region turned into what turn answers of it, from the outermost one in; of a type that may be.
func turned(t api.Type, turn func(region int) int) api.Type {
	switch t.Kind {
	case api.TyBox:
		t.Of = []api.Type{turned(t.Of[0], turn)}
	case api.TyRef:
		t.Region = turn(t.Region)
		t.Of = []api.Type{turned(t.Of[0], turn)}
	default:
		t.Of = nil // an empty list may be memory of whoever handed it in, too
	}
	return t
}

// typeOf is the type of a place that is known to be one among these locals, in memory of its own. Layer 10 knows the locals only as they stand in the graph, where most references have no region yet.
func typeOf(structs []api.Struct, locals []api.Type, p api.Place) api.Type {
	t := locals[p.Local]
	for _, step := range p.Path {
		if step == api.Deref {
			t = t.Of[0]
		} else {
			t = structs[t.Struct].Fields[step].Type
		}
	}
	return turned(t, func(region int) int { return region })
}
