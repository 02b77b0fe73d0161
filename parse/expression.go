package parse

import "loanword/api"

// The levels by which expressions hold together; those of signs between two are in levelOf.
const (
	lowest   = 1
	compares = 3
	prefixed = 6
)

func (p *parser) expression() *knot { return p.leveled(lowest) }

// levelOf tells how strongly a sign holds together what stands on its two sides; 0 of one that does not.
func levelOf(sign string) int {
	switch sign {
	case "||":
		return 1
	case "&&":
		return 2
	case "==", "!=", "<", "<=", ">", ">=":
		return compares
	case "+", "-":
		return 4
	case "*", "/", "%":
		return 5
	}
	return 0
}

// leveled reads an expression of this level or more.
func (p *parser) leveled(least int) *knot {
	at := p.ahead().At
	left := p.operand()
	most := prefixed
	for {
		sign := p.ahead().S
		level := levelOf(sign)
		if level < least || level > most {
			return left
		}
		p.next()
		left = tied(api.Node{Kind: api.NBin, At: at, S: sign}, left, p.leveled(level+1))
		// What stands left is of this level from now on, and what compares has nothing that compares beside it.
		most = level
		if level == compares {
			most = level - 1
		}
	}
}

// operand reads an expression that no sign between two is the last one of.
func (p *parser) operand() *knot {
	first := p.ahead()
	switch first.S {
	case "-":
		return p.prefix(api.NNeg)
	case "!":
		return p.prefix(api.NNot)
	case "*":
		return p.prefix(api.NDeref)
	case "&":
		return p.prefix(api.NRef)
	}
	k := p.single()
	for p.accept(".") {
		k = tied(api.Node{Kind: api.NDot, At: first.At, S: p.expectKind(api.TokName).S}, k)
	}
	return k
}

func (p *parser) prefix(kind api.NodeKind) *knot {
	k := tied(api.Node{Kind: kind, At: p.next().At})
	p.held(func() {
		if kind == api.NRef && p.accept("mut") {
			k.node.N = 1
		}
		k.children = []*knot{p.leveled(prefixed)}
	})
	return k
}

// single reads an expression that holds together whatever stands beside it.
func (p *parser) single() *knot {
	first := p.ahead()
	switch {
	case first.Kind == api.TokInt:
		return tied(api.Node{Kind: api.NInt, At: p.next().At, N: first.N})
	case first.Kind == api.TokName:
		return p.varOrCall()
	case first.Kind == api.TokType:
		return p.maker()
	case p.accept("true"):
		return tied(api.Node{Kind: api.NBool, At: first.At, N: 1})
	case p.accept("false"):
		return tied(api.Node{Kind: api.NBool, At: first.At})
	case p.accept("box"):
		return tied(api.Node{Kind: api.NBox, At: first.At}, p.inBrackets())
	case p.accept("read"):
		p.between("(", ")", func() {})
		return tied(api.Node{Kind: api.NRead, At: first.At})
	}
	return p.inBrackets()
}

// inBrackets reads an expression in brackets, which have no node.
func (p *parser) inBrackets() (k *knot) {
	p.between("(", ")", func() { k = p.expression() })
	return k
}

func (p *parser) varOrCall() *knot {
	name := p.next()
	if !p.is("(") {
		return tied(api.Node{Kind: api.NVar, At: name.At, S: name.S})
	}
	handed := p.list("(", ")", api.MaxParams, p.expression)
	return tied(api.Node{Kind: api.NCall, At: name.At, S: name.S}, handed...)
}

func (p *parser) maker() *knot {
	name := p.next()
	k := tied(api.Node{Kind: api.NMake, At: name.At, S: name.S})
	p.between("{", "}", func() {
		k.children = p.several(",", api.MaxFields, func() *knot { return p.named(api.NInit, p.expression) })
	})
	return k
}
