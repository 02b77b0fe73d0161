package typing_test

import (
	"fmt"
	"regexp"
	"slices"
	"sort"
	"strings"

	"loanword/api"
	"loanword/decl"
	"loanword/print"
	"loanword/tree"
	"loanword/types"
)

// plain is a file, word by word: what is asked of a node is asked by going over all of them, and types are texts (of layer 6, without regions).
type plain struct {
	nodes []api.Node
	up    []int
	d     api.Decls
}

func plainFile(t api.Tree) (p plain, at int, e api.Errno) {
	p.d, at, e = decl.Of(t)
	if e != api.OK {
		return plain{}, at, e
	}
	p.nodes = t.Nodes
	p.up, _ = tree.Up(t)
	return p, 0, api.OK
}

// shown is a tree as a text, or as it is.
func shown(t api.Tree) string {
	s, e := print.File(t)
	if e != api.OK {
		return fmt.Sprint(t.Nodes)
	}
	return s
}

// plainOf is Of: the nodes of each function's body in the order in which they are asked, and the first one at fault.
func plainOf(t api.Tree) (api.Typed, int, api.Errno) {
	p, at, e := plainFile(t)
	if e != api.OK {
		return api.Typed{}, at, e
	}
	for _, s := range p.d.Sigs {
		for _, n := range p.order(s.Node) {
			if at, e := p.ask(n); e != api.OK {
				return api.Typed{}, at, e
			}
		}
	}
	return p.all(t), 0, api.OK
}

// within: n is m's parent, or its parent's, and so on.
func (p plain) within(m, n int) bool {
	for m = p.up[m]; m >= 0; m = p.up[m] {
		if m == n {
			return true
		}
	}
	return false
}

// last is the last node that is n or within it.
func (p plain) last(n int) int {
	for m := n + 1; m < len(p.nodes); m++ {
		if !p.within(m, n) {
			return m - 1
		}
	}
	return len(p.nodes) - 1
}

// order: a node's children from the left, then it. So one that ends earlier is asked earlier; of two that end together the inner one.
func (p plain) order(fn int) []int {
	var l []int
	end := map[int]int{}
	for n := range p.nodes {
		if p.within(n, fn) && p.inBody(n) {
			l = append(l, n)
			end[n] = p.last(n)
		}
	}
	sort.Slice(l, func(i, j int) bool {
		if end[l[i]] != end[l[j]] {
			return end[l[i]] < end[l[j]]
		}
		return l[i] > l[j]
	})
	return l
}

// fn is the NFn that n is, or is within; -1, if there is none.
func (p plain) fn(n int) int {
	for n >= 0 && p.nodes[n].Kind != api.NFn {
		n = p.up[n]
	}
	return n
}

// number is the number of n's function.
func (p plain) number(n int) (int, bool) {
	fn, number := p.fn(n), 0
	for m := range max(fn, 0) {
		if p.nodes[m].Kind == api.NFn {
			number++
		}
	}
	return number, fn >= 0
}

// inBody: n is within the NBlock of a function.
func (p plain) inBody(n int) bool {
	for n = p.up[n]; n >= 0; n = p.up[n] {
		if p.nodes[n].Kind == api.NBlock {
			return true
		}
	}
	return false
}

// variables are the nodes that make the variables of a function.
func (p plain) variables(fn int) []int {
	var l []int
	for n, x := range p.nodes {
		if (x.Kind == api.NParam || x.Kind == api.NLet) && p.within(n, fn) {
			l = append(l, n)
		}
	}
	return l
}

// scoped: what the node m makes is in scope at the node n of the same function's body.
func (p plain) scoped(m, n int) bool {
	if p.nodes[m].Kind == api.NParam {
		return true
	}
	return m < n && !p.within(n, m) && p.within(n, p.up[m])
}

// meant is the number of the variable that an NVar means; -1, if there is none.
func (p plain) meant(n int) int {
	meant := -1
	for number, m := range p.variables(p.fn(n)) {
		if p.nodes[m].S == p.nodes[n].S && p.scoped(m, n) {
			meant = number
		}
	}
	return meant
}

func isType(x api.Node) bool { return x.Kind >= api.NTyInt && x.Kind <= api.NTyName }

func isExpression(x api.Node) bool { return x.Kind >= api.NInt && x.Kind != api.NInit }

func (p plain) isPlace(n int) bool {
	for p.nodes[n].Kind == api.NDot || p.nodes[n].Kind == api.NDeref {
		n = p.nodes[n].L[0]
	}
	return p.nodes[n].Kind == api.NVar
}

// through is asked of a place expression: all that stands within it is part of it.
func (p plain) through(n int) (reference, shared bool) {
	for m := range p.nodes {
		if (m == n || p.within(m, n)) && p.nodes[m].Kind == api.NDeref {
			s := p.typeOf(p.nodes[m].L[0])
			reference = reference || s[0] == '&'
			shared = shared || s[0] == '&' && !strings.HasPrefix(s, "&mut ")
		}
	}
	return reference, shared
}

// moved is asked of a place expression.
func (p plain) moved(n int) bool {
	x := p.nodes[p.up[n]]
	switch x.Kind {
	case api.NDot, api.NDeref, api.NRef:
		return false
	case api.NAssign:
		if x.L[0] == n {
			return false
		}
	}
	s := p.typeOf(n)
	return s != "i64" && s != "bool" && (s[0] != '&' || strings.HasPrefix(s, "&mut "))
}

// refTo is a reference to what a text is.
func refTo(mut bool, s string) string {
	if mut {
		return "&mut " + s
	}
	return strings.ReplaceAll("&"+s, "&&", "& &")
}

// pointee is what a text's type points to; empty, if it does not.
func pointee(s string) string {
	for _, begin := range []string{"&mut ", "& ", "&"} {
		if strings.HasPrefix(s, begin) {
			return s[len(begin):]
		}
	}
	if strings.HasPrefix(s, "Box<") {
		return s[4 : len(s)-1]
	}
	return ""
}

var region = regexp.MustCompile(`'[0-9]+ `)

// bareText is a type's text without its regions.
func bareText(x api.Type) string {
	return strings.ReplaceAll(region.ReplaceAllString(text(x), ""), "&&", "& &")
}

// depth is how deep a text's type is.
func depth(s string) int { return 1 + strings.Count(s, "&") + strings.Count(s, "<") }

// fields are those of the struct that a text is; none, if it is no struct's.
func (p plain) fields(s string) []api.Field {
	for i := range p.d.Structs {
		if s == fmt.Sprint("#", i) {
			return p.d.Structs[i].Fields
		}
	}
	return nil
}

func place(l []api.Field, name string) int {
	return slices.IndexFunc(l, func(f api.Field) bool { return f.Name == name })
}

func (p plain) structOf(name string) int {
	return slices.IndexFunc(p.d.Structs, func(s api.Struct) bool { return s.Name == name })
}

func (p plain) sigOf(name string) int {
	return slices.IndexFunc(p.d.Sigs, func(s api.Sig) bool { return s.Name == name })
}

// varType is the type of what an NParam or an NLet makes.
func (p plain) varType(m int) api.Type {
	fn, _ := p.number(m)
	s, x := p.d.Sigs[fn], p.nodes[m]
	if x.Kind == api.NParam {
		return s.Params[place(s.Params, x.S)].Type
	}
	if x.N == 2 {
		return read(p.typeOf(x.L[0]))
	}
	return read(p.written(x.L[0], s.Lives))
}

func read(s string) api.Type {
	x, _, e := types.Read(s)
	if e != api.OK {
		panic(s)
	}
	return x
}

// written is the text of the type at a node, with the lifetimes' numbers.
func (p plain) written(n int, lives []string) string {
	x := p.nodes[n]
	switch x.Kind {
	case api.NTyInt:
		return "i64"
	case api.NTyBool:
		return "bool"
	case api.NTyName:
		return fmt.Sprint("#", p.structOf(x.S))
	case api.NTyBox:
		return "Box<" + p.written(x.L[0], lives) + ">"
	}
	s := "&"
	if x.S != "" {
		s += fmt.Sprintf("'%d ", slices.Index(lives, x.S))
	}
	if x.N == 1 {
		s += "mut "
	}
	return strings.ReplaceAll(s+p.written(x.L[0], lives), "&&", "& &")
}

// typeOf is the type of an expression in which nothing is at fault.
func (p plain) typeOf(n int) string {
	x := p.nodes[n]
	switch x.Kind {
	case api.NBool, api.NNot:
		return "bool"
	case api.NVar:
		return bareText(p.varType(p.variables(p.fn(n))[p.meant(n)]))
	case api.NDot:
		l := p.fields(p.typeOf(x.L[0]))
		return bareText(l[place(l, x.S)].Type)
	case api.NDeref:
		return pointee(p.typeOf(x.L[0]))
	case api.NRef:
		return refTo(x.N == 1, p.typeOf(x.L[0]))
	case api.NBox:
		return "Box<" + p.typeOf(x.L[0]) + ">"
	case api.NCall:
		return bareText(p.d.Sigs[p.sigOf(x.S)].Answer)
	case api.NMake:
		return fmt.Sprint("#", p.structOf(x.S))
	case api.NBin:
		if !strings.Contains("+-*/%", x.S) {
			return "bool"
		}
	}
	return "i64"
}

// ask tells what is at fault with one node, those ahead of it in the order being well.
func (p plain) ask(n int) (int, api.Errno) {
	x := p.nodes[n]
	parent := p.nodes[p.up[n]]
	switch {
	case isType(x) && parent.Kind == api.NLet:
		return p.askType(n)
	case isExpression(x):
		if at, e := p.askExpression(n); e != api.OK {
			return at, e
		}
		if p.isPlace(n) && p.moved(n) {
			if reference, _ := p.through(n); reference {
				return n, api.ErrMoved
			}
		}
		if (parent.Kind == api.NIf || parent.Kind == api.NWhile) && p.typeOf(n) != "bool" {
			return n, api.ErrType
		}
		return 0, api.OK
	}
	return p.askStatement(n)
}

func (p plain) askType(n int) (int, api.Errno) {
	fn, _ := p.number(n)
	for m := n; m <= p.last(n); m++ {
		x := p.nodes[m]
		if x.Kind == api.NTyName && p.structOf(x.S) < 0 || x.Kind == api.NTyRef && x.S != "" && !slices.Contains(p.d.Sigs[fn].Lives, x.S) {
			return m, api.ErrName
		}
	}
	return 0, api.OK
}

// asked tells the first of these that is not so.
type asked struct {
	so bool
	at int
	e  api.Errno
}

func first(l ...asked) (int, api.Errno) {
	for _, a := range l {
		if !a.so {
			return a.at, a.e
		}
	}
	return 0, api.OK
}

func (p plain) askExpression(n int) (int, api.Errno) {
	x := p.nodes[n]
	var child int
	var a, b string
	if x.Kind != api.NMake && len(x.L) > 0 {
		child = x.L[0]
		a, b = p.typeOf(child), p.typeOf(x.L[len(x.L)-1])
	}
	switch x.Kind {
	case api.NVar:
		return first(asked{p.meant(n) >= 0, n, api.ErrVar})
	case api.NDot:
		return first(asked{p.isPlace(child), n, api.ErrPlace}, asked{a[0] == '#', n, api.ErrType}, asked{place(p.fields(a), x.S) >= 0, n, api.ErrField})
	case api.NDeref:
		return first(asked{p.isPlace(child), n, api.ErrPlace}, asked{pointee(a) != "", n, api.ErrType})
	case api.NRef:
		shared := false
		if p.isPlace(child) {
			_, shared = p.through(child)
		}
		return first(asked{p.isPlace(child) && (x.N == 0 || !shared), n, api.ErrPlace}, asked{depth(a) < api.MaxNest, n, api.ErrNest})
	case api.NNeg:
		return first(asked{a == "i64", n, api.ErrType})
	case api.NNot:
		return first(asked{a == "bool", n, api.ErrType})
	case api.NBin:
		want := map[string]string{"&&": "bool bool", "||": "bool bool", "==": "i64 i64, bool bool", "!=": "i64 i64, bool bool"}[x.S]
		if want == "" {
			want = "i64 i64"
		}
		return first(asked{slices.Contains(strings.Split(want, ", "), a+" "+b), n, api.ErrType})
	case api.NCall:
		return p.askCall(n)
	case api.NMake:
		return p.askMake(n)
	case api.NBox:
		return first(asked{depth(a) < api.MaxNest, n, api.ErrNest})
	}
	return 0, api.OK
}

func (p plain) askCall(n int) (int, api.Errno) {
	x := p.nodes[n]
	fn := p.sigOf(x.S)
	if fn < 0 {
		return n, api.ErrFn
	}
	params := p.d.Sigs[fn].Params
	if len(params) != len(x.L) {
		return n, api.ErrCount
	}
	for i, c := range x.L {
		if p.typeOf(c) != bareText(params[i].Type) {
			return c, api.ErrType
		}
	}
	return 0, api.OK
}

func (p plain) askMake(n int) (int, api.Errno) {
	x := p.nodes[n]
	if p.structOf(x.S) < 0 {
		return n, api.ErrFn
	}
	fields := p.d.Structs[p.structOf(x.S)].Fields
	var names []string
	for _, init := range x.L {
		name, child := p.nodes[init].S, p.nodes[init].L[0]
		k := place(fields, name)
		if k < 0 {
			return init, api.ErrField
		}
		at, e := first(asked{!slices.Contains(names, name), init, api.ErrCount}, asked{p.typeOf(child) == bareText(fields[k].Type), child, api.ErrType})
		if e != api.OK {
			return at, e
		}
		names = append(names, name)
	}
	for _, f := range fields {
		if !slices.Contains(names, f.Name) {
			return n, api.ErrCount
		}
	}
	return 0, api.OK
}

func (p plain) askStatement(n int) (int, api.Errno) {
	x := p.nodes[n]
	fn, _ := p.number(n)
	switch x.Kind {
	case api.NLet:
		if x.N == 3 {
			return first(asked{bareText(p.varType(n)) == p.typeOf(x.L[1]), x.L[1], api.ErrType})
		}
	case api.NAssign:
		shared := false
		if p.isPlace(x.L[0]) {
			_, shared = p.through(x.L[0])
		}
		return first(asked{p.isPlace(x.L[0]) && !shared, x.L[0], api.ErrPlace}, asked{p.typeOf(x.L[0]) == p.typeOf(x.L[1]), x.L[1], api.ErrType})
	case api.NReturn:
		return first(asked{p.typeOf(x.L[0]) == bareText(p.d.Sigs[fn].Answer), x.L[0], api.ErrType})
	case api.NPrint:
		return first(asked{p.typeOf(x.L[0]) == "i64", x.L[0], api.ErrType})
	case api.NBreak, api.NContinue:
		looped := false
		for m, y := range p.nodes {
			looped = looped || (y.Kind == api.NLoop || y.Kind == api.NWhile) && p.within(n, m)
		}
		return first(asked{looped, n, api.ErrLoop})
	}
	return 0, api.OK
}

// all is what a file means in which nothing is at fault.
func (p plain) all(t api.Tree) api.Typed {
	x := api.Typed{Decls: p.d}
	x.Tree, _ = tree.Own(t)
	for _, s := range p.d.Sigs {
		var l []api.Var
		for _, m := range p.variables(s.Node) {
			l = append(l, api.Var{Name: p.nodes[m].S, Type: p.varType(m), Node: m})
		}
		x.Vars = append(x.Vars, l)
	}
	for n, y := range p.nodes {
		var is api.Type
		if isExpression(y) {
			is = read(p.typeOf(n))
		}
		x.Of = append(x.Of, is)
		x.Means = append(x.Means, p.means(n))
	}
	return x
}

func (p plain) means(n int) int {
	switch x := p.nodes[n]; x.Kind {
	case api.NVar:
		return p.meant(n)
	case api.NLet, api.NParam:
		return slices.Index(p.variables(p.fn(n)), n)
	case api.NCall:
		return p.sigOf(x.S)
	case api.NMake:
		return p.structOf(x.S)
	case api.NDot:
		return place(p.fields(p.typeOf(x.L[0])), x.S)
	case api.NInit:
		return place(p.d.Structs[p.structOf(p.nodes[p.up[n]].S)].Fields, x.S)
	}
	return -1
}
