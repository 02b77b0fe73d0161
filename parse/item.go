package parse

import "loanword/api"

func (p *parser) file() *knot {
	f := tied(api.Node{Kind: api.NFile})
	if !p.atEnd() {
		f.node.At = p.ahead().At
	}
	for !p.atEnd() {
		f.children = append(f.children, p.item())
	}
	return f
}

func (p *parser) item() *knot {
	switch p.ahead().S {
	case "struct":
		return p.structItem()
	case "fn":
		return p.fnItem()
	}
	p.giveUp(api.ErrSyntax)
	return nil
}

func (p *parser) structItem() *knot {
	first := p.next()
	name := p.expectKind(api.TokType)
	k := tied(api.Node{Kind: api.NStruct, At: first.At, S: name.S})
	p.between("{", "}", func() {
		k.children = p.several(",", api.MaxFields, func() *knot { return p.named(api.NField, p.typeNode) })
	})
	return k
}

// named reads a name, a colon, and what has that name.
func (p *parser) named(kind api.NodeKind, what func() *knot) *knot {
	name := p.expectKind(api.TokName)
	p.expect(":")
	return tied(api.Node{Kind: kind, At: name.At, S: name.S}, what())
}

func (p *parser) fnItem() *knot {
	first := p.next()
	name := p.expectKind(api.TokName)
	lives := p.lives()
	params := p.list("(", ")", api.MaxParams, func() *knot { return p.named(api.NParam, p.typeNode) })
	p.expect("->")
	children := append(lives, params...)
	children = append(children, p.typeNode(), p.block())
	return tied(api.Node{Kind: api.NFn, At: first.At, N: int64(len(lives)), S: name.S}, children...)
}

// lives reads a function's lifetimes, where it has some; their < is none of those that are open.
func (p *parser) lives() []*knot {
	if !p.accept("<") {
		return nil
	}
	l := p.several(",", api.MaxLives, p.life)
	p.expect(">")
	return l
}

func (p *parser) life() *knot {
	k := p.lifeNode(api.NLife)
	if p.accept(":") {
		k.children = p.several("+", api.MaxLives, func() *knot { return p.lifeNode(api.NBound) })
	}
	return k
}

func (p *parser) lifeNode(kind api.NodeKind) *knot {
	name := p.expectKind(api.TokLife)
	return tied(api.Node{Kind: kind, At: name.At, S: name.S})
}

func (p *parser) typeNode() *knot {
	first := p.ahead()
	switch {
	case p.accept("i64"):
		return tied(api.Node{Kind: api.NTyInt, At: first.At})
	case p.accept("bool"):
		return tied(api.Node{Kind: api.NTyBool, At: first.At})
	case p.accept("Box"):
		k := tied(api.Node{Kind: api.NTyBox, At: first.At})
		p.between("<", ">", func() { k.children = []*knot{p.typeNode()} })
		return k
	case p.accept("&"):
		return p.refType(first)
	}
	name := p.expectKind(api.TokType)
	return tied(api.Node{Kind: api.NTyName, At: name.At, S: name.S})
}

// refType reads what stands behind the & of a type.
func (p *parser) refType(first api.Token) *knot {
	k := tied(api.Node{Kind: api.NTyRef, At: first.At})
	p.held(func() {
		if p.ahead().Kind == api.TokLife {
			k.node.S = p.next().S
		}
		if p.accept("mut") {
			k.node.N = 1
		}
		k.children = []*knot{p.typeNode()}
	})
	return k
}
