package typing

import (
	"loanword/api"
	"loanword/types"
)

func (r *reader) block(n int) {
	count := len(r.scope)
	for _, s := range r.nodes[n].L {
		r.statement(s)
	}
	r.scope = r.scope[:count]
}

func (r *reader) statement(n int) {
	x := r.nodes[n]
	switch x.Kind {
	case api.NBlock:
		r.block(n)
	case api.NLet:
		r.let(n)
	case api.NAssign:
		r.assign(x.L[0], x.L[1])
	case api.NIf:
		r.either(n)
	case api.NWhile:
		r.condition(x.L[0])
		r.loop(x.L[1])
	case api.NLoop:
		r.loop(x.L[0])
	case api.NBreak, api.NContinue:
		must(demand{n, api.ErrLoop, func() bool { return r.loops > 0 }})
	case api.NReturn:
		r.fits(x.L[0], r.sig.Answer)
	case api.NPrint:
		r.fits(x.L[0], api.Type{Kind: api.TyInt})
	case api.NExpr:
		r.expression(x.L[0])
	}
}

// let reads its type, then its expression. The variable comes into scope behind both.
func (r *reader) let(n int) {
	x := r.nodes[n]
	var t api.Type
	switch x.N {
	case 1:
		t = r.letType(x.L[0])
	case 2:
		t = bare(r.expression(x.L[0]))
	case 3:
		t = r.letType(x.L[0])
		r.fits(x.L[1], t)
	}
	r.bring(n, t)
}

func (r *reader) assign(to, from int) {
	t, given := r.expression(to), r.expression(from)
	must(
		demand{to, api.ErrPlace, func() bool { return r.isOpen(to) }},
		demand{from, api.ErrType, func() bool { return types.Alike(given, t) }},
	)
}

// either reads an NIf; behind its else stands a block or another NIf.
func (r *reader) either(n int) {
	l := r.nodes[n].L
	r.condition(l[0])
	for _, branch := range l[1:] {
		r.statement(branch)
	}
}

func (r *reader) loop(block int) {
	r.loops++
	r.block(block)
	r.loops--
}

func (r *reader) condition(n int) { r.fits(n, api.Type{Kind: api.TyBool}) }

// fits reads the expression n, and asks that its type is alike t.
func (r *reader) fits(n int, t api.Type) {
	given := r.expression(n)
	must(demand{n, api.ErrType, func() bool { return types.Alike(given, t) }})
}
