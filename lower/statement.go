package lower

import (
	"slices"

	"loanword/api"
	"loanword/types"
)

// loop is a loop in whose block one is.
type loop struct {
	begin  int            // the point at which it begins
	outer  int            // how many variables are in scope around its block
	breaks []func(to int) // what its breaks wait with for the point behind it
}

func (m *maker) block(n int) {
	outer := len(m.scope)
	for _, s := range m.nodes[n].L {
		m.statement(s)
	}
	m.leave(n, outer)
	m.scope = m.scope[:outer:outer]
}

// leave makes the variables dead that came into scope behind the outer ones, the last one first.
func (m *maker) leave(n, outer int) {
	left := m.scope[outer:]
	if m.counts { // all at once: thousands of breaks may each leave thousands of variables
		m.size.points += len(left)
		return
	}
	for _, local := range slices.Backward(left) {
		m.point(n, api.Point{Op: api.Dead, From: api.Place{Local: local}})
	}
}

func (m *maker) statement(n int) {
	x := m.nodes[n]
	switch x.Kind {
	case api.NBlock:
		m.block(n)
	case api.NLet:
		m.let(n)
	case api.NAssign:
		a := m.operand(x.L[1])
		m.use(n, m.place(x.L[0]), a)
	case api.NIf:
		m.either(n)
	case api.NWhile:
		m.while(n)
	case api.NLoop:
		m.round(n, m.next(), x.L[0])
	case api.NBreak:
		l := m.leaveLoop(n)
		l.breaks = append(l.breaks, m.jump(n))
	case api.NContinue:
		l := m.leaveLoop(n)
		m.jump(n)(l.begin)
	case api.NReturn:
		m.use(n, api.Place{}, m.operand(x.L[0]))
		m.point(n, api.Point{Op: api.Return})
	case api.NPrint:
		m.point(n, api.Point{Op: api.Print, A: m.operand(x.L[0])})
	case api.NExpr:
		m.call(n)
	}
}

// let makes the variable's local behind those of its expression.
func (m *maker) let(n int) {
	x := m.nodes[n]
	var a api.Operand
	valued := x.N != 1
	if valued {
		a = m.operand(x.L[len(x.L)-1])
	}
	home := m.home(m.typed.Means[n])
	m.scope = append(m.scope, home.Local)
	if valued {
		m.use(n, home, a)
	}
}

// either makes an NIf; behind its else stands a block or another NIf.
func (m *maker) either(n int) {
	x := m.nodes[n]
	otherwise := m.branch(n, m.operand(x.L[0]))
	m.block(x.L[1])
	if x.N == 0 {
		otherwise(m.next())
		return
	}
	on := m.jump(n)
	otherwise(m.next())
	m.statement(x.L[2])
	on(m.next())
}

func (m *maker) while(n int) {
	x := m.nodes[n]
	begin := m.next()
	otherwise := m.branch(n, m.operand(x.L[0]))
	m.round(n, begin, x.L[1])
	otherwise(m.next())
}

// round makes the block of a loop that begins at a point, and the way back there.
func (m *maker) round(n, begin, block int) {
	deep := len(m.loops)
	m.loops = append(m.loops, loop{begin: begin, outer: len(m.scope)})
	m.block(block)
	m.jump(n)(begin)
	for _, on := range m.loops[deep].breaks {
		on(m.next())
	}
	m.loops = m.loops[:deep:deep]
}

// leaveLoop leaves the blocks that are open up to the innermost loop's, and answers that loop.
func (m *maker) leaveLoop(n int) *loop {
	l := &m.loops[len(m.loops)-1]
	m.leave(n, l.outer)
	return l
}

// call makes a call whose answer nobody takes.
func (m *maker) call(n int) {
	child := m.nodes[n].L[0]
	answer := m.operand(child)
	if drops, _ := types.Drops(m.typed.Decls.Structs, m.typed.Of[child]); drops { // both may be, since the file does
		m.point(n, api.Point{Op: api.Drop, From: answer.Place})
	}
}
