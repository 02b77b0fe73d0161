package parse

import "loanword/api"

func (p *parser) block() *knot {
	k := tied(api.Node{Kind: api.NBlock, At: p.ahead().At})
	p.between("{", "}", func() {
		for !p.is("}") {
			k.children = append(k.children, p.statement())
		}
	})
	return k
}

func (p *parser) statement() *knot {
	switch p.ahead().S {
	case "let":
		return p.let()
	case "if":
		return p.ifElse()
	case "while":
		at := p.next().At
		return tied(api.Node{Kind: api.NWhile, At: at}, p.expression(), p.block())
	case "loop":
		at := p.next().At
		return tied(api.Node{Kind: api.NLoop, At: at}, p.block())
	case "break":
		return p.ended(tied(api.Node{Kind: api.NBreak, At: p.next().At}))
	case "continue":
		return p.ended(tied(api.Node{Kind: api.NContinue, At: p.next().At}))
	case "return":
		at := p.next().At
		return p.ended(tied(api.Node{Kind: api.NReturn, At: at}, p.expression()))
	case "print":
		at := p.next().At
		return p.ended(tied(api.Node{Kind: api.NPrint, At: at}, p.inBrackets()))
	case "{":
		return p.block()
	}
	return p.ended(p.assignOrCall())
}

// ended takes the semicolon behind a statement.
func (p *parser) ended(k *knot) *knot {
	p.expect(";")
	return k
}

func (p *parser) let() *knot {
	at := p.next().At
	k := tied(api.Node{Kind: api.NLet, At: at, S: p.expectKind(api.TokName).S})
	typed := p.accept(":")
	if typed {
		k.node.N = 1
		k.children = append(k.children, p.typeNode())
	}
	if !typed || p.is("=") {
		p.expect("=")
		k.node.N += 2
		k.children = append(k.children, p.expression())
	}
	return p.ended(k)
}

func (p *parser) ifElse() *knot {
	k := tied(api.Node{Kind: api.NIf, At: p.next().At})
	k.children = []*knot{p.expression(), p.block()}
	if !p.accept("else") {
		return k
	}
	k.node.N = 1
	if p.is("if") {
		k.children = append(k.children, p.ifElse())
	} else {
		k.children = append(k.children, p.block())
	}
	return k
}

// assignOrCall reads a statement that begins with an expression. A call in brackets is no call as a statement.
func (p *parser) assignOrCall() *knot {
	first := p.ahead()
	left := p.expression()
	if left.node.Kind == api.NCall && first.S != "(" && !p.is("=") {
		return tied(api.Node{Kind: api.NExpr, At: first.At}, left)
	}
	p.expect("=")
	return tied(api.Node{Kind: api.NAssign, At: first.At}, left, p.expression())
}
