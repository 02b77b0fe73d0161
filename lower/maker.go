package lower

import "loanword/api"

// maker makes the graph of one function, local by local and point by point.
type maker struct {
	typed api.Typed
	nodes []api.Node
	sig   api.Sig
	vars  []api.Var
	graph api.Graph
	size  size

	// counts: only the size is asked. Nothing is kept then, and nothing is too large: a file with many variables and many breaks has millions of points.
	counts bool

	homes []int  // of each variable its local
	scope []int  // a stack: the locals of the lets that are in scope, cut back where a block ends
	loops []loop // a stack: the loops in whose blocks one is
}

// size is how much a graph has of what it can have too much of.
type size struct {
	points, locals, loans int
}

func makerOf(x api.Typed, fn int) *maker {
	return &maker{typed: x, nodes: x.Tree.Nodes, sig: x.Decls.Sigs[fn], vars: x.Vars[fn], homes: make([]int, len(x.Vars[fn]))}
}

func (m *maker) function() {
	m.graph = api.Graph{Name: m.sig.Name, Lives: m.sig.Count, Outlives: m.sig.Outlives, Params: len(m.sig.Params)}
	m.local("", m.sig.Answer)
	for v := range m.sig.Params {
		m.home(v)
	}
	l := m.nodes[m.sig.Node].L
	m.block(l[len(l)-1])
	m.point(m.sig.Node, api.Point{Op: api.Return})
}

// home makes the local of a variable.
func (m *maker) home(variable int) api.Place {
	x := m.vars[variable]
	p := m.local(x.Name, x.Type)
	m.homes[variable] = p.Local
	return p
}

// local makes a local, and answers it as a place.
func (m *maker) local(name string, t api.Type) api.Place {
	p := api.Place{Local: m.size.locals}
	m.size.locals++
	m.must(m.size.locals <= api.MaxLocals)
	if !m.counts {
		m.graph.Locals = append(m.graph.Locals, t)
		m.graph.Names = append(m.graph.Names, name)
	}
	return p
}

// point makes a point for the node n, and answers its number. It goes on at the one that is made next, until something else is said.
func (m *maker) point(n int, p api.Point) int {
	q := m.next()
	m.size.points++
	if p.Op == api.Borrow {
		m.size.loans++
	}
	m.must(m.size.points <= api.MaxPoints && m.size.loans <= api.MaxLoans)
	p.At = m.nodes[n].At
	if p.Op != api.Return {
		p.Next = q + 1
	}
	if !m.counts {
		m.graph.Points = append(m.graph.Points, p)
	}
	return q
}

// next answers the number of the point that is made next.
func (m *maker) next() int { return m.size.points }

// must gives the graph up, unless it is small enough.
func (m *maker) must(small bool) {
	if !small && !m.counts {
		panic(tooLarge{})
	}
}

// use makes the point that assigns to a place what an operand has.
func (m *maker) use(n int, to api.Place, a api.Operand) {
	m.point(n, api.Point{Op: api.Use, To: to, A: a})
}

// branch makes a Branch. Where that goes on if a is false is not known yet: what is answered is called with it when it is.
func (m *maker) branch(n int, a api.Operand) (otherwise func(to int)) {
	q := m.point(n, api.Point{Op: api.Branch, A: a})
	return func(to int) {
		if !m.counts {
			m.graph.Points[q].Else = to
		}
	}
}

// jump makes a Goto; what is answered is called with the point at which it goes on.
func (m *maker) jump(n int) (on func(to int)) {
	q := m.point(n, api.Point{Op: api.Goto})
	return func(to int) {
		if !m.counts {
			m.graph.Points[q].Next = to
		}
	}
}
