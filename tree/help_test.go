package tree_test

import (
	"math/rand"
	"reflect"
	"regexp"
	"strconv"
	"strings"
	"testing"

	"loanword/api"
	"loanword/tree"
)

// The kinds' names, from NoNode on.
var kindNames = strings.Fields("NoNode NFile NStruct NField NFn NLife NBound NParam NTyInt NTyBool NTyBox NTyRef NTyName NBlock NLet NAssign NIf NWhile NLoop NBreak NContinue NReturn NPrint NExpr NInt NBool NVar NDot NDeref NRef NNeg NNot NBin NCall NMake NInit NBox NRead")

func kindName(k api.NodeKind) string {
	if int(k) < len(kindNames) {
		return kindNames[k]
	}
	return "NBeyond"
}

// asked is a line of the chapter's table: patterns of S and of N, and of the names of the children; # stands for N.
type asked struct {
	text, number, children string
}

const (
	aName     = `[a-z][a-z0-9_]{0,31}`
	aTypeName = `[A-Z][A-Za-z0-9_]{0,31}`
	aSign     = `[+*/%-]|[=!<>]=|[<>]|&&|\|\|`
	one       = `[01]`
	whole     = `[0-9]+`
)

var table = map[string]asked{
	"NFile":     {"", "0", "ITEM*"},
	"NStruct":   {aTypeName, "0", "NField{1,8}"},
	"NField":    {aName, "0", "TYPE"},
	"NParam":    {aName, "0", "TYPE"},
	"NFn":       {aName, "[0-8]", "NLife{#}NParam{0,8}TYPE NBlock"},
	"NLife":     {aName, "0", "NBound{0,8}"},
	"NBound":    {aName, "0", ""},
	"NTyInt":    {"", "0", ""},
	"NTyBool":   {"", "0", ""},
	"NTyBox":    {"", "0", "TYPE"},
	"NTyRef":    {"|" + aName, one, "TYPE"},
	"NTyName":   {aTypeName, "0", ""},
	"NBlock":    {"", "0", "STATEMENT*"},
	"NLet":      {aName, "[123]", "LET#"},
	"NAssign":   {"", "0", "EXPRESSION EXPRESSION"},
	"NIf":       {"", one, "EXPRESSION NBlock ELSE{#}"},
	"NWhile":    {"", "0", "EXPRESSION NBlock"},
	"NLoop":     {"", "0", "NBlock"},
	"NBreak":    {"", "0", ""},
	"NContinue": {"", "0", ""},
	"NReturn":   {"", "0", "EXPRESSION"},
	"NPrint":    {"", "0", "EXPRESSION"},
	"NExpr":     {"", "0", "NCall"},
	"NInt":      {"", whole, ""},
	"NBool":     {"", one, ""},
	"NVar":      {aName, "0", ""},
	"NDot":      {aName, "0", "EXPRESSION"},
	"NDeref":    {"", "0", "EXPRESSION"},
	"NRef":      {"", one, "EXPRESSION"},
	"NNeg":      {"", "0", "EXPRESSION"},
	"NNot":      {"", "0", "EXPRESSION"},
	"NBin":      {aSign, "0", "EXPRESSION EXPRESSION"},
	"NCall":     {aName, "0", "EXPRESSION{0,8}"},
	"NMake":     {aTypeName, "0", "NInit{1,8}"},
	"NInit":     {aName, "0", "EXPRESSION"},
	"NBox":      {"", "0", "EXPRESSION"},
	"NRead":     {"", "0", ""},
}

// wordPattern is a word in a pattern of children; what it stands for where it is no kind's name.
var wordPattern = regexp.MustCompile(`[A-Za-z]+[0-9]? ?`)

func standsFor(word string) string {
	word = strings.TrimSpace(word)
	switch word {
	case "ITEM":
		return `(?:NStruct |NFn )`
	case "TYPE":
		return `(?:NTy[A-Za-z]+ )`
	case "ELSE":
		return `(?:NBlock |NIf )`
	case "STATEMENT":
		return `(?:(?:NLet|NAssign|NIf|NWhile|NLoop|NBreak|NContinue|NReturn|NPrint|NExpr|NBlock) )`
	case "EXPRESSION":
		return `(?:(?:NInt|NBool|NVar|NDot|NDeref|NRef|NNeg|NNot|NBin|NCall|NMake|NBox|NRead|NBeyond) )`
	case "LET1":
		return standsFor("TYPE")
	case "LET2":
		return standsFor("EXPRESSION")
	case "LET3":
		return standsFor("TYPE") + standsFor("EXPRESSION")
	}
	return `(?:` + word + ` )`
}

var known = map[string]*regexp.Regexp{}

func fits(pattern, s string) bool {
	if known[pattern] == nil {
		known[pattern] = regexp.MustCompile(`\A(?:` + pattern + `)\z`)
	}
	return known[pattern].MatchString(s)
}

var keywords = strings.Fields("fn struct let if else loop while break continue return true false mut print read box i64 bool")

func isReserved(s string) bool {
	for _, w := range keywords {
		if s == w {
			return true
		}
	}
	return s == "Box"
}

// plainFits tells whether a node is as its kind asks, by the table.
func plainFits(t api.Tree, n api.Node) bool {
	line, ok := table[kindName(n.Kind)]
	number := strconv.FormatInt(n.N, 10)
	if !ok || n.At < 0 || !fits(line.text, n.S) || isReserved(n.S) || !fits(line.number, number) {
		return false
	}
	children := ""
	for _, c := range n.L {
		if c < 0 || c >= len(t.Nodes) {
			return false
		}
		children += kindName(t.Nodes[c].Kind) + " "
	}
	pattern := strings.ReplaceAll(line.children, "#", number)
	if !strings.Contains(pattern, "LET") {
		pattern = strings.ReplaceAll(line.children, "#", "@")
	}
	pattern = wordPattern.ReplaceAllStringFunc(pattern, standsFor)
	return fits(strings.ReplaceAll(pattern, "@", number), children)
}

// plainDown goes down from n, told the next number; it answers the one behind all that it met, and the node that stops it, or -1.
func plainDown(t api.Tree, n, next int) (int, int) {
	for _, c := range t.Nodes[n].L {
		if c != next || c >= len(t.Nodes) {
			return next, n
		}
		var stop int
		if next, stop = plainDown(t, c, next+1); stop >= 0 {
			return next, stop
		}
	}
	return next, -1
}

func plainDeep(t api.Tree, n int) int {
	deep := 0
	for _, c := range t.Nodes[n].L {
		deep = max(deep, plainDeep(t, c))
	}
	return deep + 1
}

// plainCheck is P3.1, word by word.
func plainCheck(t api.Tree) (int, api.Errno) {
	if len(t.Nodes) == 0 {
		return 0, api.ErrTree
	}
	if len(t.Nodes) > api.MaxNodes {
		return api.MaxNodes, api.ErrLong
	}
	fault := make([]bool, len(t.Nodes))
	for i, n := range t.Nodes {
		fault[i] = !plainFits(t, n)
	}
	if next, stop := plainDown(t, 0, 1); stop >= 0 {
		fault[stop] = true
	} else if next < len(t.Nodes) {
		fault[next] = true
	}
	for i, is := range fault {
		if is {
			return i, api.ErrTree
		}
	}
	if plainDeep(t, 0) > api.MaxNest {
		return 0, api.ErrNest
	}
	return 0, api.OK
}

// knot is a node with its children in it: a tree that needs no numbers.
type knot struct {
	n    api.Node
	kids []knot
}

func k(kind api.NodeKind, s string, n int64, kids ...knot) knot {
	return knot{api.Node{Kind: kind, S: s, N: n}, kids}
}

// flat is a knot as a tree.
func flat(x knot) api.Tree {
	var t api.Tree
	lay(&t, x)
	return t
}

func lay(t *api.Tree, x knot) {
	at := len(t.Nodes)
	x.n.L = nil
	t.Nodes = append(t.Nodes, x.n)
	for _, kid := range x.kids {
		t.Nodes[at].L = append(t.Nodes[at].L, len(t.Nodes))
		lay(t, kid)
	}
}

func repeat(x knot, n int) []knot {
	var l []knot
	for range n {
		l = append(l, x)
	}
	return l
}

// chain is a knot that is deep deep: NNeg within NNeg, an NInt at the end.
func chain(deep int) knot {
	x := k(api.NInt, "", 7)
	for range deep - 1 {
		x = k(api.NNeg, "", 0, x)
	}
	return x
}

var (
	aType  = k(api.NTyInt, "", 0)
	aBlock = k(api.NBlock, "", 0)
	aSum   = k(api.NBin, "+", 0, k(api.NNeg, "", 0, k(api.NInt, "", 1)), k(api.NInt, "", 2))
)

// chanceKnot is a knot of some kind that may be.
func chanceKnot(c *rand.Rand, deep int) knot {
	switch c.Intn(7) {
	case 0:
		return placed(c, k(api.NFile, "", 0, many(c, 0, 3, deep, chanceItem)...))
	case 1:
		return chanceItem(c, deep)
	case 2:
		return chanceType(c, deep)
	case 3, 4:
		return chanceStatement(c, deep)
	}
	return chanceExpression(c, deep)
}

// placed gives a knot a place in the text.
func placed(c *rand.Rand, x knot) knot {
	x.n.At = c.Intn(3) * 1000
	return x
}

func many(c *rand.Rand, least, most, deep int, make func(*rand.Rand, int) knot) []knot {
	var l []knot
	for range least + c.Intn(most-least+1) {
		l = append(l, make(c, deep-1))
	}
	return l
}

func chanceName(c *rand.Rand) string {
	return []string{"a", "x1", "y_", "boxes", "i640", strings.Repeat("n", 32)}[c.Intn(6)]
}

func chanceTypeName(c *rand.Rand) string {
	return []string{"A", "Pair", "Boxes", "B_1", "BOX", strings.Repeat("N", 32)}[c.Intn(6)]
}

func chanceItem(c *rand.Rand, deep int) knot {
	if c.Intn(2) == 0 {
		return placed(c, k(api.NStruct, chanceTypeName(c), 0, many(c, 1, 8, deep, func(c *rand.Rand, deep int) knot {
			return placed(c, k(api.NField, chanceName(c), 0, chanceType(c, deep)))
		})...))
	}
	lives := many(c, 0, 8*c.Intn(2), deep, func(c *rand.Rand, deep int) knot {
		return placed(c, k(api.NLife, chanceName(c), 0, many(c, 0, 8*c.Intn(2), deep, func(c *rand.Rand, _ int) knot {
			return placed(c, k(api.NBound, chanceName(c), 0))
		})...))
	})
	kids := append(lives, many(c, 0, 8, deep, func(c *rand.Rand, deep int) knot {
		return placed(c, k(api.NParam, chanceName(c), 0, chanceType(c, deep)))
	})...)
	return placed(c, k(api.NFn, chanceName(c), int64(len(lives)), append(kids, chanceType(c, deep), chanceBlock(c, deep))...))
}

func chanceType(c *rand.Rand, deep int) knot {
	pick := c.Intn(5)
	if deep <= 0 {
		pick = c.Intn(3)
	}
	switch pick {
	case 0:
		return placed(c, k(api.NTyInt, "", 0))
	case 1:
		return placed(c, k(api.NTyBool, "", 0))
	case 2:
		return placed(c, k(api.NTyName, chanceTypeName(c), 0))
	case 3:
		return placed(c, k(api.NTyBox, "", 0, chanceType(c, deep-1)))
	}
	return placed(c, k(api.NTyRef, []string{"", chanceName(c)}[c.Intn(2)], int64(c.Intn(2)), chanceType(c, deep-1)))
}

func chanceBlock(c *rand.Rand, deep int) knot {
	if deep <= 0 {
		return placed(c, aBlock)
	}
	return placed(c, k(api.NBlock, "", 0, many(c, 0, 3, deep, chanceStatement)...))
}

func chanceStatement(c *rand.Rand, deep int) knot {
	e := func() knot { return chanceExpression(c, deep-1) }
	b := func() knot { return chanceBlock(c, deep-1) }
	switch c.Intn(11) {
	case 0:
		return placed(c, k(api.NLet, chanceName(c), 1, chanceType(c, deep-1)))
	case 1:
		return placed(c, k(api.NLet, chanceName(c), 2, e()))
	case 2:
		return placed(c, k(api.NLet, chanceName(c), 3, chanceType(c, deep-1), e()))
	case 3:
		return placed(c, k(api.NAssign, "", 0, e(), e()))
	case 4:
		return chanceIf(c, deep)
	case 5:
		return placed(c, k(api.NWhile, "", 0, e(), b()))
	case 6:
		return placed(c, k(api.NLoop, "", 0, b()))
	case 7:
		return placed(c, k(api.NBreak+api.NodeKind(c.Intn(2)), "", 0))
	case 8:
		return placed(c, k(api.NReturn+api.NodeKind(c.Intn(2)), "", 0, e()))
	case 9:
		return placed(c, k(api.NExpr, "", 0, placed(c, k(api.NCall, chanceName(c), 0, many(c, 0, 8, deep-1, chanceExpression)...))))
	}
	return b()
}

func chanceIf(c *rand.Rand, deep int) knot {
	kids := []knot{chanceExpression(c, deep-1), chanceBlock(c, deep-1)}
	if c.Intn(2) == 0 {
		return placed(c, k(api.NIf, "", 0, kids...))
	}
	if deep > 0 && c.Intn(2) == 0 {
		return placed(c, k(api.NIf, "", 1, append(kids, chanceIf(c, deep-1))...))
	}
	return placed(c, k(api.NIf, "", 1, append(kids, chanceBlock(c, deep-1))...))
}

func chanceExpression(c *rand.Rand, deep int) knot {
	e := func() knot { return chanceExpression(c, deep-1) }
	pick := c.Intn(12)
	if deep <= 0 {
		pick = c.Intn(4)
	}
	switch pick {
	case 0:
		return placed(c, k(api.NInt, "", []int64{0, 1, 1<<63 - 1}[c.Intn(3)]))
	case 1:
		return placed(c, k(api.NBool, "", int64(c.Intn(2))))
	case 2:
		return placed(c, k(api.NVar, chanceName(c), 0))
	case 3:
		return placed(c, k(api.NRead, "", 0))
	case 4:
		return placed(c, k(api.NDot, chanceName(c), 0, e()))
	case 5:
		return placed(c, k(api.NRef, "", int64(c.Intn(2)), e()))
	case 6, 7:
		signs := strings.Fields("+ - * / % == != < <= > >= && ||")
		return placed(c, k(api.NBin, signs[c.Intn(len(signs))], 0, e(), e()))
	case 8:
		return placed(c, k(api.NCall, chanceName(c), 0, many(c, 0, 3, deep, chanceExpression)...))
	case 9:
		return placed(c, k(api.NMake, chanceTypeName(c), 0, many(c, 1, 3, deep, func(c *rand.Rand, deep int) knot {
			return placed(c, k(api.NInit, chanceName(c), 0, chanceExpression(c, deep)))
		})...))
	}
	return placed(c, k([]api.NodeKind{api.NDeref, api.NNeg, api.NNot, api.NBox}[c.Intn(4)], "", 0, e()))
}

// copied is the tree in other memory, to see later what became of it.
func copied(t api.Tree) api.Tree {
	var x api.Tree
	for _, n := range t.Nodes {
		n.L = append([]int(nil), n.L...)
		x.Nodes = append(x.Nodes, n)
	}
	return x
}

// equal tells whether two trees are the same, places and all; none and nothing are.
func equal(a, b api.Tree) bool { return reflect.DeepEqual(copied(a), copied(b)) }

func mustCheck(t *testing.T, x api.Tree) {
	t.Helper()
	at, e := plainCheck(x)
	was := copied(x)
	gotAt, got := tree.Check(x)
	if gotAt != at || got != e {
		t.Fatalf("Check(%v): at %d, %v, not at %d, %v", x.Nodes, gotAt, got, at, e)
	}
	if tree.May(x) != (e == api.OK) {
		t.Fatalf("May(%v): %v", x.Nodes, e != api.OK)
	}
	if !equal(x, was) {
		t.Fatalf("Check changed %v to %v", was.Nodes, x.Nodes)
	}
}

func mustBe(t *testing.T, what string, got api.Tree, e api.Errno, want api.Tree) {
	t.Helper()
	if e != api.OK || !equal(got, want) {
		t.Fatalf("%s: %v, %v, not %v", what, got.Nodes, e, want.Nodes)
	}
}

func mustRefuse(t *testing.T, what string, got api.Tree, e, want api.Errno) {
	t.Helper()
	if e != want || len(got.Nodes) != 0 {
		t.Fatalf("%s: %v, %v, not %v", what, got.Nodes, e, want)
	}
}
