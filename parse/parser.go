package parse

import "loanword/api"

// stop is what a text that does not go on is given up with.
type stop struct {
	at int
	e  api.Errno
}

// row is the tokens that are left of a text, and its length.
type row struct {
	left []api.Token
	end  int
}

// ahead answers the next token; behind the last one a token without a kind, at the text's end.
func (r *row) ahead() api.Token {
	if len(r.left) == 0 {
		return api.Token{At: r.end}
	}
	return r.left[0]
}

// next takes the token that ahead tells.
func (r *row) next() api.Token {
	t := r.ahead()
	if len(r.left) > 0 {
		r.left = r.left[1:]
	}
	return t
}

// parser reads the grammar's parts. It takes a token only if the text goes on with it.
type parser struct {
	ahead, next func() api.Token
	open        int // how many signs are open at the next token
}

func newParser(l []api.Token, end int) *parser {
	r := &row{left: l, end: end}
	return &parser{ahead: r.ahead, next: r.next}
}

// giveUp stops at the next token, or at the end.
func (p *parser) giveUp(e api.Errno) {
	panic(stop{at: p.ahead().At, e: e})
}

func (p *parser) atEnd() bool { return p.ahead().Kind == api.NoToken }

func (p *parser) end() {
	if !p.atEnd() {
		p.giveUp(api.ErrSyntax)
	}
}

// is tells whether the next token is this word or sign: no other token has such a text.
func (p *parser) is(s string) bool { return p.ahead().S == s }

// accept takes the next token, if it is this word or sign.
func (p *parser) accept(s string) bool {
	if !p.is(s) {
		return false
	}
	p.next()
	return true
}

func (p *parser) expect(s string) {
	if !p.accept(s) {
		p.giveUp(api.ErrSyntax)
	}
}

func (p *parser) expectKind(kind api.TokenKind) api.Token {
	if p.ahead().Kind != kind {
		p.giveUp(api.ErrSyntax)
	}
	return p.next()
}

// held reads what a sign holds that was taken just now.
func (p *parser) held(inner func()) {
	p.open++
	// The end is no token, so nothing is open there: the text just has no end.
	if p.open > api.MaxOpen && !p.atEnd() {
		p.giveUp(api.ErrNest)
	}
	inner()
	p.open--
}

// between reads what stands between two signs; the first one is open as far as the second one.
func (p *parser) between(first, last string, inner func()) {
	p.expect(first)
	p.held(func() {
		inner()
		p.expect(last)
	})
}

// several reads one or more, with the sign between each two. Behind as many as there may be the sign is left, for whoever comes next to refuse.
func (p *parser) several(sign string, most int, one func() *knot) []*knot {
	l := []*knot{one()}
	for len(l) < most && p.accept(sign) {
		l = append(l, one())
	}
	return l
}

// list reads what stands between two signs: none, or several with a comma between each two.
func (p *parser) list(first, last string, most int, one func() *knot) (l []*knot) {
	p.between(first, last, func() {
		if !p.is(last) {
			l = p.several(",", most, one)
		}
	})
	return l
}
