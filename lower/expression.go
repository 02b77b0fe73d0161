package lower

import (
	"loanword/api"
	"loanword/types"
)

// operand makes the points that come to the value of the expression n, and answers the operand that has it.
func (m *maker) operand(n int) api.Operand {
	switch x := m.nodes[n]; {
	case x.Kind == api.NInt:
		return api.Operand{Kind: api.ConstInt, N: x.N}
	case x.Kind == api.NBool:
		return api.Operand{Kind: api.ConstBool, N: x.N}
	case x.Kind == api.NBin && (x.S == "&&" || x.S == "||"):
		return m.lazy(n)
	}
	p := m.making(n)
	p.To = m.own(n)
	m.point(n, p)
	return m.taken(n, p.To)
}

func (m *maker) operands(l []int) []api.Operand {
	var all []api.Operand
	for _, n := range l {
		all = append(all, m.operand(n))
	}
	return all
}

// own makes the local into which the expression n comes.
func (m *maker) own(n int) api.Place { return m.local("", m.typed.Of[n]) }

// taken answers the operand that takes the value of the expression n out of a place.
func (m *maker) taken(n int, p api.Place) api.Operand {
	if types.Copies(m.typed.Of[n]) {
		return api.Operand{Kind: api.Copy, Place: p}
	}
	return api.Operand{Kind: api.Move, Place: p}
}

// making makes the points of what stands in the expression n, and answers the one that makes its own value: where to is not said yet.
func (m *maker) making(n int) api.Point {
	switch x := m.nodes[n]; x.Kind {
	case api.NNeg:
		return api.Point{Op: api.Unary, Sign: "-", A: m.operand(x.L[0])}
	case api.NNot:
		return api.Point{Op: api.Unary, Sign: "!", A: m.operand(x.L[0])}
	case api.NBin:
		l := m.operands(x.L)
		return api.Point{Op: api.Binary, Sign: x.S, A: l[0], B: l[1]}
	case api.NRef:
		return api.Point{Op: api.Borrow, From: m.place(x.L[0]), Mut: x.N == 1}
	case api.NBox:
		return api.Point{Op: api.Box, A: m.operand(x.L[0])}
	case api.NRead:
		return api.Point{Op: api.Read}
	case api.NMake:
		return api.Point{Op: api.Make, Struct: m.typed.Means[n], Args: m.fields(x.L)}
	case api.NCall:
		return api.Point{Op: api.Call, Fn: m.typed.Means[n], Args: m.operands(x.L)}
	}
	return api.Point{Op: api.Use, A: m.taken(n, m.place(n))} // a place expression
}

// fields answers the operands of an NMake in the order of the fields, of which each has one; their points are made as they stand.
func (m *maker) fields(inits []int) []api.Operand {
	l := make([]api.Operand, len(inits))
	for _, n := range inits {
		l[m.typed.Means[n]] = m.operand(m.nodes[n].L[0])
	}
	return l
}

// lazy makes an && or an ||: where its first child says it all, the second one is passed over.
func (m *maker) lazy(n int) api.Operand {
	x := m.nodes[n]
	a := m.operand(x.L[0])
	own := m.own(n)
	second := func() { m.use(n, own, m.operand(x.L[1])) }
	isTrue, isFalse := second, func() { m.use(n, own, api.Operand{Kind: api.ConstBool, N: 0}) }
	if x.S == "||" {
		isTrue, isFalse = func() { m.use(n, own, api.Operand{Kind: api.ConstBool, N: 1}) }, second
	}
	otherwise := m.branch(n, a)
	isTrue()
	on := m.jump(n)
	otherwise(m.next())
	isFalse()
	on(m.next())
	return m.taken(n, own)
}

// place answers the place that the place expression n is.
func (m *maker) place(n int) api.Place {
	x := m.nodes[n]
	if x.Kind == api.NVar {
		return api.Place{Local: m.homes[m.typed.Means[n]]}
	}
	p, step := m.place(x.L[0]), api.Deref
	if x.Kind == api.NDot {
		step = api.Step(m.typed.Means[n])
	}
	p.Path = append(p.Path, step)
	m.must(len(p.Path) <= api.MaxSteps)
	return p
}
