package lower_test

import (
	"fmt"
	"regexp"
	"strings"
	"testing"

	"loanword/api"
	"loanword/graph"
	"loanword/lower"
)

// plain is the chapter, word by word: names are looked for by their texts, points are texts, and where they go on is a label until all of them are there.
type plain struct {
	x      api.Typed
	points []string
	at     []int
	names  []string
	types  []string
	blocks [][]named // the blocks that are open, the parameters' first
	loops  []plainLoop
	labels []int // of each label its point
}

// named is a variable: its name, its type, its local.
type named struct {
	name, is string
	local    int
}

type plainLoop struct {
	begin, behind int // labels
	blocks        int // how many are open around it
}

// plainFn is a function's graph.
func plainFn(x api.Typed, fn int) *plain {
	p := &plain{x: x, blocks: [][]named{nil}}
	sig := x.Decls.Sigs[fn]
	p.local("", typeText(sig.Answer))
	for _, param := range sig.Params {
		p.variable(param.Name, typeText(param.Type))
	}
	l := x.Tree.Nodes[sig.Node].L
	p.statement(l[len(l)-1])
	p.point(sig.Node, "return")
	label := regexp.MustCompile(`<[0-9]+>`)
	for q := range p.points {
		p.points[q] = label.ReplaceAllStringFunc(p.points[q], func(s string) string {
			var n int
			fmt.Sscanf(s, "<%d>", &n)
			return fmt.Sprint(p.labels[n])
		})
	}
	return p
}

func (p *plain) point(n int, s string, l ...any) {
	p.points = append(p.points, fmt.Sprintf(s, l...))
	p.at = append(p.at, p.x.Tree.Nodes[n].At)
}

func (p *plain) local(name, is string) string {
	p.names, p.types = append(p.names, name), append(p.types, is)
	return fmt.Sprint("_", len(p.names)-1)
}

func (p *plain) variable(name, is string) string {
	last := &p.blocks[len(p.blocks)-1]
	*last = append(*last, named{name, is, len(p.names)})
	return p.local(name, is)
}

// label is a new one; here says that it is the point that comes next.
func (p *plain) label() int {
	p.labels = append(p.labels, -1)
	return len(p.labels) - 1
}

func (p *plain) here(label int) { p.labels[label] = len(p.points) }

// meant is the last variable of that name in the innermost block that has one.
func (p *plain) meant(name string) named {
	for b := len(p.blocks) - 1; b >= 0; b-- {
		for v := len(p.blocks[b]) - 1; v >= 0; v-- {
			if p.blocks[b][v].name == name {
				return p.blocks[b][v]
			}
		}
	}
	panic("no variable " + name)
}

func copied(is string) bool {
	return is == "i64" || is == "bool" || is[0] == '&' && !strings.HasPrefix(is, "&mut ")
}

func (p *plain) dropped(is string) bool {
	if strings.HasPrefix(is, "Box<") {
		return true
	}
	var n int
	if _, err := fmt.Sscanf(is, "#%d", &n); err != nil {
		return false
	}
	for _, f := range p.x.Decls.Structs[n].Fields {
		if p.dropped(typeText(f.Type)) {
			return true
		}
	}
	return false
}

func (p *plain) leave(n, blocks int) {
	for b := len(p.blocks) - 1; b >= blocks; b-- {
		for v := len(p.blocks[b]) - 1; v >= 0; v-- {
			p.point(n, "dead _%d", p.blocks[b][v].local)
		}
	}
}

func (p *plain) statement(n int) {
	x := p.x.Tree.Nodes[n]
	switch x.Kind {
	case api.NLet:
		p.let(n, x)
	case api.NAssign:
		a := p.operand(x.L[1])
		p.point(n, "%s = %s", p.place(x.L[0]), a)
	case api.NIf:
		a, second, behind := p.operand(x.L[0]), p.label(), p.label()
		p.point(n, "if %s -> %d else <%d>", a, len(p.points)+1, second)
		p.statement(x.L[1])
		if x.N == 1 {
			p.point(n, "goto -> <%d>", behind)
		}
		p.here(second)
		if x.N == 1 {
			p.statement(x.L[2])
		}
		p.here(behind)
	case api.NWhile, api.NLoop:
		p.loop(n, x)
	case api.NBreak:
		p.leave(n, p.loops[len(p.loops)-1].blocks)
		p.point(n, "goto -> <%d>", p.loops[len(p.loops)-1].behind)
	case api.NContinue:
		p.leave(n, p.loops[len(p.loops)-1].blocks)
		p.point(n, "goto -> <%d>", p.loops[len(p.loops)-1].begin)
	case api.NReturn:
		p.point(n, "_0 = %s", p.operand(x.L[0]))
		p.point(n, "return")
	case api.NPrint:
		p.point(n, "print %s", p.operand(x.L[0]))
	case api.NExpr:
		p.operand(x.L[0])
		if own := len(p.types) - 1; p.dropped(p.types[own]) {
			p.point(n, "drop _%d", own)
		}
	case api.NBlock:
		p.blocks = append(p.blocks, nil)
		for _, s := range x.L {
			p.statement(s)
		}
		p.leave(n, len(p.blocks)-1)
		p.blocks = p.blocks[:len(p.blocks)-1]
	}
}

func (p *plain) let(n int, x api.Node) {
	var is string
	for _, vars := range p.x.Vars {
		for _, v := range vars {
			if v.Node == n {
				is = typeText(v.Type)
			}
		}
	}
	if x.N == 1 {
		p.variable(x.S, is)
		return
	}
	a := p.operand(x.L[x.N-2])
	p.point(n, "%s = %s", p.variable(x.S, is), a)
}

func (p *plain) loop(n int, x api.Node) {
	l := plainLoop{p.label(), p.label(), len(p.blocks)}
	p.here(l.begin)
	if x.Kind == api.NWhile {
		a := p.operand(x.L[0])
		p.point(n, "if %s -> %d else <%d>", a, len(p.points)+1, l.behind)
	}
	p.loops = append(p.loops, l)
	p.statement(x.L[len(x.L)-1])
	p.loops = p.loops[:len(p.loops)-1]
	p.point(n, "goto -> <%d>", l.begin)
	p.here(l.behind)
}

// place is the place expression n as a text.
func (p *plain) place(n int) string {
	x := p.x.Tree.Nodes[n]
	switch x.Kind {
	case api.NVar:
		return fmt.Sprint("_", p.meant(x.S).local)
	case api.NDeref:
		return p.place(x.L[0]) + ".*"
	}
	for k, f := range p.x.Decls.Structs[p.x.Of[x.L[0]].Struct].Fields {
		if f.Name == x.S {
			return fmt.Sprintf("%s.%d", p.place(x.L[0]), k)
		}
	}
	panic("no field " + x.S)
}

func taken(is, place string) string {
	if copied(is) {
		return "copy " + place
	}
	return "move " + place
}

func (p *plain) all(l []int) string {
	var s []string
	for _, n := range l {
		s = append(s, p.operand(n))
	}
	return strings.Join(s, ", ")
}

func (p *plain) operand(n int) string {
	x, is := p.x.Tree.Nodes[n], typeText(p.x.Of[n])
	var made string
	switch x.Kind {
	case api.NInt:
		return fmt.Sprint(x.N)
	case api.NBool:
		return fmt.Sprint(x.N == 1)
	case api.NBin:
		if x.S == "&&" || x.S == "||" {
			return p.lazy(n, x)
		}
		made = strings.Replace(p.all(x.L), ",", " "+x.S, 1)
	case api.NNeg:
		made = "- " + p.operand(x.L[0])
	case api.NNot:
		made = "! " + p.operand(x.L[0])
	case api.NRef:
		made = []string{"& ", "&mut "}[x.N] + p.place(x.L[0])
	case api.NBox:
		made = "box " + p.operand(x.L[0])
	case api.NRead:
		made = "read"
	case api.NCall:
		for fn, sig := range p.x.Decls.Sigs {
			if sig.Name == x.S {
				made = fmt.Sprintf("f%d(%s)", fn, p.all(x.L))
			}
		}
	case api.NMake:
		made = p.construct(x)
	default:
		made = taken(is, p.place(n))
	}
	own := p.local("", is)
	p.point(n, "%s = %s", own, made)
	return taken(is, own)
}

func (p *plain) construct(x api.Node) string {
	of := map[string]string{}
	for _, init := range x.L {
		of[p.x.Tree.Nodes[init].S] = p.operand(p.x.Tree.Nodes[init].L[0])
	}
	for number, s := range p.x.Decls.Structs {
		if s.Name == x.S {
			var l []string
			for _, f := range s.Fields {
				l = append(l, of[f.Name])
			}
			return fmt.Sprintf("#%d(%s)", number, strings.Join(l, ", "))
		}
	}
	panic("no struct " + x.S)
}

func (p *plain) lazy(n int, x api.Node) string {
	a, own, otherwise, behind := p.operand(x.L[0]), p.local("", "bool"), p.label(), p.label()
	p.point(n, "if %s -> %d else <%d>", a, len(p.points)+1, otherwise)
	if x.S == "&&" {
		p.point(n, "%s = %s", own, p.operand(x.L[1]))
	} else {
		p.point(n, "%s = true", own)
	}
	p.point(n, "goto -> <%d>", behind)
	p.here(otherwise)
	if x.S == "&&" {
		p.point(n, "%s = false", own)
	} else {
		p.point(n, "%s = %s", own, p.operand(x.L[1]))
	}
	p.here(behind)
	return "copy " + own
}

func (p *plain) loans() int {
	n := 0
	for _, s := range p.points {
		if strings.Contains(s, "= &") {
			n++
		}
	}
	return n
}

// longPlace: has one of its places more than MaxSteps steps?
var longPlace = regexp.MustCompile(`_[0-9]+(\.(\*|[0-9]+)){9}`)

func (p *plain) tooLarge() bool {
	return len(p.points) > api.MaxPoints || len(p.names) > api.MaxLocals || p.loans() > api.MaxLoans || longPlace.MatchString(strings.Join(p.points, ";"))
}

// mustHold holds all calls of a file against the chapter's words. It answers whether all of the file's functions are small enough.
func mustHold(t *testing.T, x api.Typed) bool {
	t.Helper()
	wantFn := -1
	var all []*plain
	for fn := range x.Decls.Sigs {
		p := plainFn(x, fn)
		all = append(all, p)
		points, locals, loans, e := lower.Size(x, fn)
		if points != len(p.points) || locals != len(p.names) || loans != p.loans() || e != api.OK {
			t.Fatalf("Size of %d: %d, %d, %d, %v; want %d, %d, %d", fn, points, locals, loans, e, len(p.points), len(p.names), p.loans())
		}
		if g, e := lower.Fn(x, fn); p.tooLarge() && (e != api.ErrPoint || len(g.Points)+len(g.Locals)+len(g.Names)+len(g.Name)+g.Params+g.Lives+len(g.Outlives) > 0) || !p.tooLarge() && e != api.OK {
			t.Fatalf("Fn of %d: %v, %v; too large: %v", fn, g, e, p.tooLarge())
		}
		if p.tooLarge() && wantFn < 0 {
			wantFn = fn
		}
	}
	u, fn, e := lower.Unit(x)
	if wantFn >= 0 {
		if len(u.Structs)+len(u.Fns)+u.Main > 0 || fn != wantFn || e != api.ErrPoint {
			t.Fatalf("%v, %d, %v; want %d, ErrPoint", u, fn, e, wantFn)
		}
		return false
	}
	if fn != 0 || e != api.OK || len(u.Fns) != len(all) {
		t.Fatalf("%v, %d, %v", u, fn, e)
	}
	for fn, p := range all {
		mustBe(t, u, fn, p)
	}
	return true
}

// mustBe holds one graph of a unit against the chapter's words.
func mustBe(t *testing.T, u api.Unit, fn int, p *plain) {
	t.Helper()
	lines, e := graph.Lines(u, fn)
	if e != api.OK || len(lines) != len(p.points) {
		t.Fatalf("function %d: %v, %v; want %v", fn, lines, e, p.points)
	}
	g := u.Fns[fn]
	for q, s := range p.points {
		if want := fmt.Sprintf("%d: %s", q, s); lines[q] != want || g.Points[q].At != p.at[q] {
			t.Fatalf("function %d: %s at %d; want %s at %d", fn, lines[q], g.Points[q].At, want, p.at[q])
		}
	}
	if len(g.Locals) != len(p.types) || len(g.Names) != len(p.names) {
		t.Fatalf("function %d: %v, %v; want %v, %v", fn, g.Locals, g.Names, p.types, p.names)
	}
	for n := range p.types {
		if typeText(g.Locals[n]) != p.types[n] || g.Names[n] != p.names[n] {
			t.Fatalf("function %d: local %d is %s %q; want %s %q", fn, n, typeText(g.Locals[n]), g.Names[n], p.types[n], p.names[n])
		}
	}
}
