package parse_test

import (
	"strconv"
	"strings"
)

// The chapter's grammar, as it stands there. x, S, a, int: a TokName, a TokType, a TokLife, a TokInt; what has no line of its own is a word or a sign.
// Lists that end somewhere (FIELDS, PARAMS, LIFES, BOUNDS, HANDED, INITS) are made by counted.
const grammarText = `
FILE = | FILE ITEM
ITEM = struct S { FIELDS } | fn x LIVES ( ) -> TYPE BLOCK | fn x LIVES ( PARAMS ) -> TYPE BLOCK
FIELD = x : TYPE
LIVES = | < LIFES >
LIFE = a | a : BOUNDS
TYPE = i64 | bool | Box < TYPE > | & TYPE | & a TYPE | & mut TYPE | & a mut TYPE | S
BLOCK = { STATEMENTS }
STATEMENTS = | STATEMENTS STATEMENT
STATEMENT = let x : TYPE ; | let x = E ; | let x : TYPE = E ; | E = E ; | IF | while E BLOCK | loop BLOCK | break ; | continue ; | return E ; | print ( E ) ; | CALL ; | BLOCK
IF = if E BLOCK | if E BLOCK else BLOCK | if E BLOCK else IF
E = E1
E1 = E2 | E1 || E2
E2 = E3 | E2 && E3
E3 = E4 | E4 == E4 | E4 != E4 | E4 < E4 | E4 <= E4 | E4 > E4 | E4 >= E4
E4 = E5 | E4 + E5 | E4 - E5
E5 = E6 | E5 * E6 | E5 / E6 | E5 % E6
E6 = E7 | - E6 | ! E6 | * E6 | & E6 | & mut E6
E7 = E8 | E7 . x
E8 = int | true | false | x | CALL | S { INITS } | box ( E ) | read ( ) | ( E )
CALL = x ( ) | x ( HANDED )
INIT = x : E
`

// grammar has of each part what it may be.
type grammar map[string][][]string

func theGrammar() grammar {
	g := grammar{}
	for _, line := range strings.Split(strings.TrimSpace(grammarText), "\n") {
		head, all, _ := strings.Cut(line, " =")
		for _, one := range strings.Split(all+" ", " | ") {
			g[head] = append(g[head], strings.Fields(one))
		}
	}
	g.counted("FIELDS", "FIELD", ",", 8)
	g.counted("PARAMS", "FIELD", ",", 8)
	g.counted("LIFES", "LIFE", ",", 8)
	g.counted("BOUNDS", "a", "+", 8)
	g.counted("HANDED", "E", ",", 8)
	g.counted("INITS", "INIT", ",", 8)
	return g
}

// counted lays down a list of one to most.
func (g grammar) counted(list, one, between string, most int) {
	name := func(n int) string {
		if n == most {
			return list
		}
		return list + strconv.Itoa(n)
	}
	g[name(1)] = [][]string{{one}}
	for n := 2; n <= most; n++ {
		g[name(n)] = [][]string{{one}, {one, between, name(n - 1)}}
	}
}

// state is a part that is being read: which one, which of what it may be, how much of that is read, and at which token it began.
type state struct {
	head        string
	which, read int
	from        int
}

// chart is Earley's: of each beginning of a row of tokens all states that it may be in.
type chart struct {
	g    grammar
	what string
	sets [][]state
}

func newChart(g grammar, what string) *chart {
	c := &chart{g: g, what: what}
	var first []state
	for i := range g[what] {
		first = append(first, state{head: what, which: i})
	}
	c.sets = append(c.sets, nil)
	c.sets[0] = c.closed(first)
	return c
}

func (c *chart) next(s state) string {
	if parts := c.g[s.head][s.which]; s.read < len(parts) {
		return parts[s.read]
	}
	return ""
}

// closed adds to the last set's states all that follow from them without a token more.
func (c *chart) closed(l []state) []state {
	here := len(c.sets) - 1
	seen := map[state]bool{}
	var set []state
	add := func(s state) {
		if !seen[s] {
			seen[s] = true
			set = append(set, s)
		}
	}
	for _, s := range l {
		add(s)
	}
	empty := map[string]bool{}
	for i := 0; i < len(set); i++ {
		s := set[i]
		part := c.next(s)
		switch {
		case part == "":
			if s.from == here {
				empty[s.head] = true
			}
			back := set
			if s.from < here {
				back = c.sets[s.from]
			}
			for _, b := range back {
				if c.next(b) == s.head {
					add(state{b.head, b.which, b.read + 1, b.from})
				}
			}
		case c.g[part] != nil:
			for which := range c.g[part] {
				add(state{part, which, 0, here})
			}
			if empty[part] {
				add(state{s.head, s.which, s.read + 1, s.from})
			}
		}
	}
	return set
}

// push takes a token (as the grammar names it), and tells whether the row goes on with it; if not, it is not taken.
func (c *chart) push(token string) bool {
	var l []state
	for _, s := range c.sets[len(c.sets)-1] {
		if c.next(s) == token {
			l = append(l, state{s.head, s.which, s.read + 1, s.from})
		}
	}
	if l == nil {
		return false
	}
	c.sets = append(c.sets, nil)
	c.sets[len(c.sets)-1] = c.closed(l)
	return true
}

func (c *chart) pop() { c.sets = c.sets[:len(c.sets)-1] }

// expected is the tokens with which the row goes on, as they stand in all.
func (c *chart) expected(all []string) []string {
	asked := map[string]bool{}
	for _, s := range c.sets[len(c.sets)-1] {
		asked[c.next(s)] = true
	}
	var l []string
	for _, token := range all {
		if asked[token] {
			l = append(l, token)
		}
	}
	return l
}

// whole tells whether the row is such a text.
func (c *chart) whole() bool {
	for _, s := range c.sets[len(c.sets)-1] {
		if s.head == c.what && s.from == 0 && c.next(s) == "" {
			return true
		}
	}
	return false
}

// allTokens: each token as the grammar names it.
var allTokens = strings.Fields("x S a int fn struct let if else loop while break continue return true false mut print read box i64 bool Box { } ( ) < > , ; : . & * ! = + - / % -> == != <= >= && ||")

// spelling is a token's text.
func spelling(token string) string {
	switch token {
	case "x":
		return "y1"
	case "S":
		return "Pair"
	case "a":
		return "'a"
	case "int":
		return "7"
	}
	return token
}

// spelt is the text of a row of tokens, a blank between each two, and the place of each one and of the end.
func spelt(tokens ...string) (s string, places []int) {
	for i, token := range tokens {
		if i > 0 {
			s += " "
		}
		places = append(places, len(s))
		s += spelling(token)
	}
	return s, append(places, len(s))
}
