package decl_test

import (
	"fmt"
	"regexp"
	"slices"
	"strings"
	"testing"

	"loanword/api"
	"loanword/decl"
	"loanword/types"
)

var (
	aName    = regexp.MustCompile(`^[a-z][a-z0-9_]{0,31}$`)
	aType    = regexp.MustCompile(`^[A-Z][A-Za-z0-9_]{0,31}$`)
	keywords = strings.Fields("fn struct let if else loop while break continue return true false mut print read box i64 bool Box")
)

// plainNames: all are as the pattern asks, no keywords, none twice.
func plainNames(pattern *regexp.Regexp, l []string) bool {
	for i, s := range l {
		if !pattern.MatchString(s) || slices.Contains(keywords, s) || slices.Contains(l[:i], s) {
			return false
		}
	}
	return true
}

// plainMay is May, sentence by sentence.
func plainMay(d api.Decls) bool {
	var structs, sigs []string
	for _, s := range d.Structs {
		var fields []string
		for _, f := range s.Fields {
			fields = append(fields, f.Name)
		}
		if len(fields) < 1 || len(fields) > api.MaxFields || !plainNames(aName, fields) {
			return false
		}
		structs = append(structs, s.Name)
	}
	if _, e := types.Structs(d.Structs); e != api.OK {
		return false
	}
	main := 0
	for _, s := range d.Sigs {
		if !plainSig(d.Structs, s) {
			return false
		}
		if s.Name == "main" && s.Count == 0 && len(s.Params) == 0 && text(s.Answer) == "i64" {
			main++
		}
		sigs = append(sigs, s.Name)
	}
	return main == 1 && len(structs) <= api.MaxItems && len(sigs) <= api.MaxItems && plainNames(aType, structs) && plainNames(aName, sigs)
}

func plainSig(structs []api.Struct, s api.Sig) bool {
	var params []string
	all := []api.Type{s.Answer}
	for _, p := range s.Params {
		params = append(params, p.Name)
		all = append(all, p.Type)
	}
	if len(params) > api.MaxParams || s.Count > api.MaxLives || s.Count < len(s.Lives) || !plainNames(aName, params) || !plainNames(aName, s.Lives) {
		return false
	}
	for _, x := range all {
		if !types.May(structs, x) {
			return false
		}
		regions := types.Regions(x)
		for i, short := range regions {
			if short < 0 || short >= s.Count {
				return false
			}
			for _, long := range regions[i+1:] {
				if long != short && !slices.Contains(s.Outlives, api.Outlives{Long: long, Short: short}) {
					return false
				}
			}
		}
	}
	for i, a := range s.Outlives {
		if min(a.Long, a.Short) < 0 || max(a.Long, a.Short) >= s.Count || a.Long == a.Short {
			return false
		}
		if i > 0 && s.Outlives[i-1].Long*100+s.Outlives[i-1].Short >= a.Long*100+a.Short {
			return false
		}
		for _, b := range s.Outlives {
			if a.Short == b.Long && a.Long != b.Short && !slices.Contains(s.Outlives, api.Outlives{Long: a.Long, Short: b.Short}) {
				return false
			}
		}
	}
	return true
}

// changed is a reason why declarations may not be, and such ones.
type changed struct {
	why string
	d   api.Decls
}

func greatText() string {
	return "struct S { a: i64, b: Box<T> } struct T { s: S, t: Box<Box<T>> } fn f<'a, 'b: 'a>(x: &'a mut &'b S, y: &i64, z: bool) -> &'b i64 { } fn g(x: &i64) -> & &i64 { }" + end
}

// wrongDecls are declarations that may not be, one for each reason; all but what the reason names is as it must be.
func wrongDecls(t *testing.T) []changed {
	var l []changed
	add := func(why string, change func(d *api.Decls)) {
		d := of(t, greatText())
		change(&d)
		l = append(l, changed{why, d})
	}
	for _, name := range []string{"", "s", "_S", "Box", "S-", "S ", "9S", "Ä", "S" + strings.Repeat("x", api.MaxName), "T"} {
		add("a struct's name "+name, func(d *api.Decls) { d.Structs[0].Name = name })
	}
	for _, name := range []string{"", "S", "_s", "let", "box", "a-", "a b", "9", "ä", "'a", strings.Repeat("x", api.MaxName+1)} {
		add("a field's name "+name, func(d *api.Decls) { d.Structs[1].Fields[0].Name = name })
		add("a function's name "+name, func(d *api.Decls) { d.Sigs[0].Name = name })
		add("a parameter's name "+name, func(d *api.Decls) { d.Sigs[0].Params[2].Name = name })
		add("a lifetime's name "+name, func(d *api.Decls) { d.Sigs[0].Lives[1] = name })
	}
	add("a field's name twice", func(d *api.Decls) { d.Structs[0].Fields[1].Name = "a" })
	add("a function's name twice", func(d *api.Decls) { d.Sigs[1].Name = "f" })
	add("main twice", func(d *api.Decls) { d.Sigs[1] = d.Sigs[2] })
	add("a parameter's name twice", func(d *api.Decls) { d.Sigs[0].Params[2].Name = "x" })
	add("a lifetime's name twice", func(d *api.Decls) { d.Sigs[0].Lives[1] = "a" })
	add("no fields", func(d *api.Decls) { d.Structs[1].Fields = nil })
	add("too many fields", func(d *api.Decls) {
		for n := range 7 {
			d.Structs[0].Fields = append(d.Structs[0].Fields, api.Field{Name: fmt.Sprintf("f%d", n), Type: typ("bool")})
		}
	})
	for _, x := range []api.Type{{}, typ("&i64"), typ("&'0 i64"), typ("Box<&'1 mut i64>"), typ("#2"), typ("Box<#2>"), {Kind: api.TyStruct, Struct: -1}, {Kind: api.TyBox}, {Kind: api.TyInt, Region: 1}, {Kind: api.TyInt, Of: []api.Type{typ("i64")}}, typ("#0"), typ("#1")} {
		add("a field's type "+text(x), func(d *api.Decls) { d.Structs[0].Fields[0].Type = x })
	}
	add("too large", func(d *api.Decls) {
		d.Structs[1].Fields = nil
		for n := range 8 {
			d.Structs[1].Fields = append(d.Structs[1].Fields, api.Field{Name: fmt.Sprintf("f%d", n), Type: typ("#0")})
		}
		d.Structs[0].Fields = append(d.Structs[0].Fields, api.Field{Name: "c", Type: typ("i64")})
	})
	add("too many structs", func(d *api.Decls) {
		for n := range 31 {
			d.Structs = append(d.Structs, api.Struct{Name: fmt.Sprintf("X%d", n), Fields: []api.Field{{Name: "a", Type: typ("i64")}}})
		}
	})
	add("too many functions", func(d *api.Decls) {
		for n := range 30 {
			d.Sigs = append(d.Sigs, api.Sig{Name: fmt.Sprintf("x%d", n), Answer: typ("i64")})
		}
	})
	add("too many parameters", func(d *api.Decls) {
		for n := range 6 {
			d.Sigs[0].Params = append(d.Sigs[0].Params, api.Field{Name: fmt.Sprintf("p%d", n), Type: typ("i64")})
		}
	})
	for _, count := range []int{-1 << 63, -1, 0, 1, 2, 9, 1 << 40, 1<<63 - 1} {
		add(fmt.Sprint("Count ", count), func(d *api.Decls) { d.Sigs[0].Count = count })
	}
	add("more names than lifetimes", func(d *api.Decls) { d.Sigs[1].Lives = []string{"a", "b"} })
	add("a region beyond the lifetimes", func(d *api.Decls) { d.Sigs[1].Params[0].Type = typ("&'1 i64") })
	for _, x := range []api.Type{{}, typ("&i64"), typ("Box<&'0 &i64>"), typ("&'3 i64"), typ("#2"), typ("Box<#31>"), {Kind: api.TyStruct, Struct: -1}, {Kind: api.TyBox}, {Kind: api.TyBool, Region: 1}, {Kind: api.TyRef}, typ("&'1 &'0 i64"), typ("&'2 Box<&'1 i64>"), typ("&'0 &'1 &'2 i64")} {
		add("a parameter's type "+text(x), func(d *api.Decls) { d.Sigs[0].Params[1].Type = x })
		add("an answer's type "+text(x), func(d *api.Decls) { d.Sigs[0].Answer = x })
	}
	for _, o := range [][]api.Outlives{nil, {{Long: 0, Short: 1}}, {{Long: 1, Short: 0}, {Long: 1, Short: 0}}, {{Long: 0, Short: 0}, {Long: 1, Short: 0}}, {{Long: 1, Short: 0}, {Long: 2, Short: 1}},
		{{Long: 1, Short: 0}, {Long: 0, Short: 1}}, {{Long: 1, Short: 0}, {Long: 3, Short: 0}}, {{Long: -1, Short: 0}, {Long: 1, Short: 0}}, {{Long: 1, Short: 0}, {Long: 1, Short: 3}}, {{Long: 1, Short: -1}, {Long: 1, Short: 0}},
		{{Long: 1, Short: 0}, {Long: 2, Short: 0}, {Long: 1, Short: 2}}, {{Long: 1, Short: 0}, {Long: 1, Short: 1}}, {{Long: 1, Short: 0}, {Long: 1 << 62, Short: 1 << 62}}} {
		add(fmt.Sprint("Outlives ", o), func(d *api.Decls) { d.Sigs[0].Outlives = o })
	}
	add("Outlives of one lifetime", func(d *api.Decls) { d.Sigs[1].Outlives = []api.Outlives{{}} })
	add("no main", func(d *api.Decls) { d.Sigs = d.Sigs[:2] })
	add("nothing", func(d *api.Decls) { *d = api.Decls{} })
	add("main with a lifetime", func(d *api.Decls) { d.Sigs[2].Count = 1 })
	add("main with a lifetime that has a name", func(d *api.Decls) { d.Sigs[2].Count, d.Sigs[2].Lives = 1, []string{"a"} })
	add("main with a parameter", func(d *api.Decls) { d.Sigs[2].Params = []api.Field{{Name: "a", Type: typ("i64")}} })
	add("main that answers a bool", func(d *api.Decls) { d.Sigs[2].Answer = typ("bool") })
	add("main that answers a box", func(d *api.Decls) { d.Sigs[2].Answer = typ("Box<i64>") })
	add("a main that is a struct's", func(d *api.Decls) { d.Sigs[2].Name = "main1" })
	return l
}

// P7.4: one by one what makes declarations such that may not be.
func TestMayNot(t *testing.T) {
	if !decl.May(of(t, greatText())) {
		t.Fatal("what Of answers may be")
	}
	for _, c := range wrongDecls(t) {
		if decl.May(c.d) || plainMay(c.d) {
			t.Errorf("%s: %s", c.why, told(c.d))
		}
	}
}

// P7.4: what is not asked: Nodes, whether Count, regions and Outlives come of some text; lists of nothing are none.
func TestMayYet(t *testing.T) {
	for why, change := range map[string]func(d *api.Decls){
		"nodes":                      func(d *api.Decls) { d.Sigs[0].Node, d.Sigs[1].Node, d.Sigs[2].Node = -7, 1<<62, 0 },
		"more lifetimes than stand":  func(d *api.Decls) { d.Sigs[0].Count = 8 },
		"as many names as lifetimes": func(d *api.Decls) { d.Sigs[1].Lives = []string{"x"} },
		"a lifetime without a name that is declared to outlive another one": func(d *api.Decls) {
			d.Sigs[0].Outlives = append(d.Sigs[0].Outlives, api.Outlives{Long: 2, Short: 0})
		},
		"a lifetime that stands nowhere": func(d *api.Decls) { d.Sigs[0].Params[1].Type = typ("&'1 i64") },
		"another order of lifetimes":     func(d *api.Decls) { d.Sigs[1].Count, d.Sigs[1].Params[0].Type = 5, typ("&'3 i64") },
		"lists of nothing": func(d *api.Decls) {
			d.Sigs[2].Params, d.Sigs[2].Lives, d.Sigs[2].Outlives = []api.Field{}, []string{}, []api.Outlives{}
		},
		"no structs": func(d *api.Decls) { d.Structs, d.Sigs = []api.Struct{}, d.Sigs[2:] },
		"a name of each kind": func(d *api.Decls) {
			d.Sigs[0].Lives[0], d.Sigs[0].Params[0].Name, d.Sigs[0].Name, d.Structs[0].Fields[0].Name = "b1", "b1", "b1", "b1"
		},
		"the longest names": func(d *api.Decls) {
			d.Structs[0].Name = "X" + strings.Repeat("y", 31)
			d.Sigs[0].Lives[0] = strings.Repeat("z", 32)
		},
		"all eight lifetimes outlive all":  func(d *api.Decls) { d.Sigs[0].Count, d.Sigs[0].Outlives = 8, everyPair(8) },
		"a leaf with a list of nothing":    func(d *api.Decls) { d.Sigs[2].Answer.Of = []api.Type{} },
		"main ahead of all":                func(d *api.Decls) { d.Sigs[0], d.Sigs[2] = d.Sigs[2], d.Sigs[0] },
		"as many parameters as may be":     func(d *api.Decls) { d.Sigs[1].Params = eightParams() },
		"a struct's name that is a main's": func(d *api.Decls) { d.Structs[0].Name = "Main" },
	} {
		d := of(t, greatText())
		change(&d)
		if !decl.May(d) || !plainMay(d) {
			t.Errorf("%s: %s", why, told(d))
		}
	}
}

func everyPair(count int) []api.Outlives {
	var l []api.Outlives
	for long := range count {
		for short := range count {
			if long != short {
				l = append(l, api.Outlives{Long: long, Short: short})
			}
		}
	}
	return l
}

func eightParams() []api.Field {
	var l []api.Field
	for n := range api.MaxParams {
		l = append(l, api.Field{Name: fmt.Sprintf("p%d", n), Type: typ("&'0 #1")})
	}
	return l
}

// P7.4: all that three lifetimes can say of one another, sorted and not, with nothing implied and with something.
func TestMaySmallOutlives(t *testing.T) {
	var pairs []api.Outlives
	for long := range 3 {
		for short := range 3 {
			pairs = append(pairs, api.Outlives{Long: long, Short: short})
		}
	}
	well := 0
	for _, params := range [][]api.Field{nil, {{Name: "x", Type: typ("&'1 Box<&'0 i64>")}}, {{Name: "x", Type: typ("&'1 &'1 i64")}, {Name: "y", Type: typ("&'0 &'2 &'0 i64")}}} {
		for set := range 1 << len(pairs) {
			var l []api.Outlives
			for i, o := range pairs {
				if set>>i&1 == 1 {
					l = append(l, o)
				}
			}
			for range 3 {
				d := api.Decls{Sigs: []api.Sig{{Name: "main", Answer: typ("i64")}, {Name: "f", Count: 3, Outlives: l, Params: params, Answer: typ("bool")}}}
				if decl.May(d) != plainMay(d) {
					t.Fatalf("May(%s): %v", told(d), !plainMay(d))
				}
				if decl.May(d) {
					well++
				}
				if len(l) < 2 {
					break
				}
				l = append(slices.Clone(l[1:]), l[0])
			}
		}
	}
	// 29 orders of three, of which some have what is implied.
	if well < 29+8 {
		t.Errorf("only %d may be", well)
	}
}

// P7.4: what Of answers, with one thing or two changed by chance.
func TestMayByChance(t *testing.T) {
	c := byChance(74)
	well := 0
	for range 1500 {
		f := file(t, c.fileText())
		if _, _, e := decl.Of(f); e != api.OK {
			continue
		}
		for range 20 {
			d, _, _ := decl.Of(f)
			for range 1 + c.Intn(2) {
				c.change(&d)
			}
			if decl.May(d) != plainMay(d) {
				t.Fatalf("May(%s): %v", told(d), !plainMay(d))
			}
			if decl.May(d) {
				well++
			}
		}
	}
	if well < 1000 {
		t.Errorf("only %d may be", well)
	}
}

// change changes one thing.
func (c chance) change(d *api.Decls) {
	s := &d.Sigs[c.Intn(len(d.Sigs))]
	name := c.of("a", "b", "x", "main", "f", "S", "T", "P", "", "let")
	x := typ(c.of("i64", "bool", "#0", "#1", "#2", "Box<#1>", "&'0 i64", "&'1 &'0 i64", "Box<&'2 i64>", "&i64"))
	switch c.Intn(11) {
	case 0:
		s.Count += c.Intn(3) - 1
	case 1:
		s.Name = name
	case 2:
		s.Lives = append(s.Lives, name)
	case 3:
		s.Params = append(s.Params, api.Field{Name: name, Type: x})
	case 4:
		s.Answer = x
	case 5:
		o := api.Outlives{Long: c.Intn(4), Short: c.Intn(4)}
		at := c.Intn(len(s.Outlives) + 1)
		s.Outlives = slices.Insert(s.Outlives, at, o)
	case 6:
		if len(s.Outlives) > 0 {
			at := c.Intn(len(s.Outlives))
			s.Outlives = slices.Delete(s.Outlives, at, at+1)
		}
	case 7:
		if len(s.Params) > 0 {
			s.Params[c.Intn(len(s.Params))].Type = x
		}
	case 8:
		d.Structs = append(d.Structs, api.Struct{Name: name, Fields: []api.Field{{Name: "a", Type: x}}})
	case 9:
		if len(d.Structs) > 0 {
			fields := d.Structs[c.Intn(len(d.Structs))].Fields
			fields[c.Intn(len(fields))] = api.Field{Name: name, Type: x}
		}
	case 10:
		s.Node = c.Intn(100) - 50
	}
}
