package typing

import (
	"loanword/api"
	"loanword/decl"
	"loanword/types"
)

// expression tells what the expression n is, and lays it down. What is answered is the file's own: whoever keeps it takes it bare.
func (r *reader) expression(n int) api.Type {
	r.of[n] = bare(r.typeAt(n))
	must(demand{n, api.ErrMoved, func() bool {
		if !r.moves(n) {
			return true
		}
		reference, _ := r.through(n)
		return !reference
	}})
	return r.of[n]
}

// typeAt reads the children of the expression n, asks what must be so of it, and answers its type.
func (r *reader) typeAt(n int) api.Type {
	switch x := r.nodes[n]; x.Kind {
	case api.NBool:
		return api.Type{Kind: api.TyBool}
	case api.NVar:
		return r.variable(n)
	case api.NDot:
		return r.dot(n, x.L[0])
	case api.NDeref:
		return r.deref(n, x.L[0])
	case api.NRef:
		return r.reference(n, x.L[0])
	case api.NNeg:
		return r.unary(n, api.TyInt)
	case api.NNot:
		return r.unary(n, api.TyBool)
	case api.NBin:
		return r.binary(n)
	case api.NCall:
		return r.call(n)
	case api.NMake:
		return r.construct(n)
	case api.NBox:
		return nested(n, api.Type{Kind: api.TyBox, Of: []api.Type{r.expression(x.L[0])}})
	}
	return api.Type{Kind: api.TyInt} // an NInt, an NRead
}

func (r *reader) variable(n int) api.Type {
	must(demand{n, api.ErrVar, func() (ok bool) {
		r.means[n], ok = r.meant(r.nodes[n].S)
		return ok
	}})
	return r.vars[r.means[n]].Type
}

func (r *reader) dot(n, child int) api.Type {
	t := r.expression(child)
	must(
		demand{n, api.ErrPlace, func() bool { return r.isPlace(child) }},
		demand{n, api.ErrType, func() bool { return t.Kind == api.TyStruct }},
		r.hasField(n, t.Struct),
	)
	return r.decls.Structs[t.Struct].Fields[r.means[n]].Type
}

// hasField asks that the struct s has the field that node n names, and lays down which one it is.
func (r *reader) hasField(n, s int) demand {
	return demand{n, api.ErrField, func() (ok bool) {
		r.means[n], ok = decl.Field(r.decls, s, r.nodes[n].S)
		return ok
	}}
}

func (r *reader) deref(n, child int) api.Type {
	t := r.expression(child)
	must(
		demand{n, api.ErrPlace, func() bool { return r.isPlace(child) }},
		demand{n, api.ErrType, func() bool { return t.Kind == api.TyBox || t.Kind == api.TyRef }},
	)
	return t.Of[0]
}

func (r *reader) reference(n, child int) api.Type {
	mut, t := r.nodes[n].N == 1, r.expression(child)
	must(demand{n, api.ErrPlace, func() bool { return r.isPlace(child) && (!mut || r.isOpen(child)) }})
	return nested(n, api.Type{Kind: api.TyRef, Mut: mut, Region: -1, Of: []api.Type{t}})
}

// nested answers t, and asks that it is no deeper than a type may be.
func nested(n int, t api.Type) api.Type {
	must(demand{n, api.ErrNest, func() bool {
		deep := 1
		for inner := t.Of; len(inner) > 0; inner = inner[0].Of {
			deep++
		}
		return deep <= api.MaxNest
	}})
	return t
}

// unary reads a sign that asks for a kind, and is of that kind.
func (r *reader) unary(n int, kind api.TypeKind) api.Type {
	t := r.expression(r.nodes[n].L[0])
	must(demand{n, api.ErrType, func() bool { return t.Kind == kind }})
	return api.Type{Kind: kind}
}

func (r *reader) binary(n int) api.Type {
	x := r.nodes[n]
	a, b := r.expression(x.L[0]), r.expression(x.L[1])
	ints, bools, is := signed(x.S)
	must(demand{n, api.ErrType, func() bool {
		return a.Kind == b.Kind && (ints && a.Kind == api.TyInt || bools && a.Kind == api.TyBool)
	}})
	return api.Type{Kind: is}
}

// signed tells whether a sign stands between two i64, between two bools, and of what kind that is.
func signed(sign string) (ints, bools bool, is api.TypeKind) {
	switch sign {
	case "+", "-", "*", "/", "%":
		return true, false, api.TyInt
	case "&&", "||":
		return false, true, api.TyBool
	case "==", "!=":
		return true, true, api.TyBool
	}
	return true, false, api.TyBool // < <= > >=
}

func (r *reader) call(n int) api.Type {
	x := r.nodes[n]
	for _, child := range x.L {
		r.expression(child)
	}
	must(demand{n, api.ErrFn, func() (ok bool) {
		r.means[n], ok = decl.Sig(r.decls, x.S)
		return ok
	}})
	sig := r.decls.Sigs[r.means[n]]
	must(demand{n, api.ErrCount, func() bool { return len(x.L) == len(sig.Params) }})
	for i, child := range x.L {
		must(demand{child, api.ErrType, func() bool { return types.Alike(r.of[child], sig.Params[i].Type) }})
	}
	return sig.Answer
}

// construct reads an NMake. Its children's children are read first: what stands in it is asked ahead of what it is itself.
func (r *reader) construct(n int) api.Type {
	x := r.nodes[n]
	for _, init := range x.L {
		r.expression(r.nodes[init].L[0])
	}
	must(demand{n, api.ErrFn, func() (ok bool) {
		r.means[n], ok = decl.Struct(r.decls, x.S)
		return ok
	}})
	s := r.means[n]
	var named [api.MaxFields]bool
	for _, init := range x.L {
		must(r.initDemands(init, s, &named)...)
	}
	// Each of them names another field, so all are named if they are as many.
	must(demand{n, api.ErrCount, func() bool { return len(x.L) == len(r.decls.Structs[s].Fields) }})
	return api.Type{Kind: api.TyStruct, Struct: s}
}

// initDemands is what is asked of an NInit of the struct s, some of whose fields are named already.
func (r *reader) initDemands(n, s int, named *[api.MaxFields]bool) []demand {
	child := r.nodes[n].L[0]
	return []demand{
		r.hasField(n, s),
		{n, api.ErrCount, func() bool {
			again := named[r.means[n]]
			named[r.means[n]] = true
			return !again
		}},
		{child, api.ErrType, func() bool {
			return types.Alike(r.of[child], r.decls.Structs[s].Fields[r.means[n]].Type)
		}},
	}
}
