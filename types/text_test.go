package types_test

import (
	"math/big"
	"strings"
	"testing"

	"loanword/api"
	"loanword/types"
)

// part is a part of the grammar of types' texts: a text, or something that stands for many; 'T' a type, 'R' a reference, 'O' a type that is none, each that deep, 'N' a number of at most most, of which text are the digits so far.
type part struct {
	kind byte
	text string
	deep int
	most string
}

func lit(s string) part { return part{text: s} }

var (
	regionPart = part{kind: 'N', most: "9223372036854775807"}
	structPart = part{kind: 'N', most: "31"}
)

// ways are what a part may be turned into; nil, if it is a text or a number.
func ways(p part) [][]part {
	in := func(kind byte) part { return part{kind: kind, deep: p.deep + 1} }
	switch p.kind {
	case 'T':
		return append(ways(part{kind: 'O', deep: p.deep}), ways(part{kind: 'R', deep: p.deep})...)
	case 'O':
		l := [][]part{{lit("i64")}, {lit("bool")}, {lit("#"), structPart}}
		if p.deep < api.MaxNest {
			l = append(l, []part{lit("Box<"), in('T'), lit(">")})
		}
		return l
	case 'R':
		if p.deep == api.MaxNest {
			return nil
		}
		l := [][]part{
			{lit("&"), in('O')}, {lit("&mut "), in('T')},
			{lit("&'"), regionPart, lit(" "), in('T')}, {lit("&'"), regionPart, lit(" mut "), in('T')},
		}
		if p.deep+1 < api.MaxNest {
			l = append(l, []part{lit("& "), in('R')})
		}
		return l
	}
	return nil
}

// isNumber tells whether digits are a number's of at most most.
func isNumber(digits, most string) bool {
	n, ok := new(big.Int).SetString(digits, 10)
	bound, _ := new(big.Int).SetString(most, 10)
	return ok && n.String() == digits && n.Cmp(bound) <= 0
}

// behind are all that may come behind the byte c, where item may come.
func behind(item []part, c byte) [][]part {
	if len(item) == 0 {
		return nil
	}
	first, rest := item[0], item[1:]
	switch first.kind {
	case 'T', 'O', 'R':
		var l [][]part
		for _, way := range ways(first) {
			l = append(l, behind(append(way[:len(way):len(way)], rest...), c)...)
		}
		return l
	case 'N':
		var l [][]part
		if longer := first.text + string(c); c >= '0' && c <= '9' && isNumber(longer, first.most) {
			first.text = longer
			l = append(l, append([]part{first}, rest...))
		}
		if item[0].text != "" {
			l = append(l, behind(rest, c)...)
		}
		return l
	}
	if first.text[0] != c {
		return nil
	}
	if len(first.text) > 1 {
		rest = append([]part{lit(first.text[1:])}, rest...)
	}
	return [][]part{rest}
}

// plainGoes tells how far s is the beginning of a type's text, and whether it is one.
func plainGoes(s string) (int, bool) {
	items := [][]part{{{kind: 'T', deep: 1}}}
	for at := range len(s) {
		var next [][]part
		for _, item := range items {
			next = append(next, behind(item, s[at])...)
		}
		if len(next) == 0 {
			return at, false
		}
		items = next
	}
	for _, item := range items {
		if len(item) == 0 || len(item) == 1 && item[0].kind == 'N' && item[0].text != "" {
			return len(s), true
		}
	}
	return len(s), false
}

// mustRead holds Read of s against the grammar; what it takes is told as s again (P6.8).
func mustRead(t *testing.T, s string) bool {
	t.Helper()
	want, is := plainGoes(s)
	x, at, e := types.Read(s)
	if !is {
		if at != want || e != api.ErrTypeText || !isZero(x) {
			t.Fatalf("Read(%q): %v, at %d, %v; want ErrTypeText at %d", s, x, at, e, want)
		}
		return false
	}
	if at != 0 || e != api.OK || !plainMay(api.MaxItems, x) {
		t.Fatalf("Read(%q): %v, at %d, %v", s, x, at, e)
	}
	if back, e := types.Text(x); back != s || e != api.OK {
		t.Fatalf("Text(Read(%q)): %q, %v", s, back, e)
	}
	return true
}

// P6.5: the chapter's examples.
func TestTextExamples(t *testing.T) {
	if s, e := types.Text(ref(-1, mutRef(2, nth(1)))); s != "& &'2 mut #1" || e != api.OK {
		t.Errorf("%q, %v", s, e)
	}
	x, _, e := types.Read("& &i64")
	mustBe(t, "& &i64", x, e, ref(-1, ref(-1, anInt)))
	for s, want := range map[string]int{"&&i64": 1, "&'01 i64": 3, "Box<i64": 7, "&'9223372036854775808 i64": 20} {
		if x, at, e := types.Read(s); at != want || e != api.ErrTypeText || !isZero(x) {
			t.Errorf("%q: %v, at %d, %v", s, x, at, e)
		}
	}
}

// P6.5: texts and the types that they are.
func TestTexts(t *testing.T) {
	for s, want := range map[string]api.Type{
		"i64":                        anInt,
		"bool":                       aBool,
		"#0":                         nth(0),
		"#31":                        nth(31),
		"Box<i64>":                   boxed(anInt),
		"&i64":                       ref(-1, anInt),
		"&mut i64":                   mutRef(-1, anInt),
		"&'0 i64":                    ref(0, anInt),
		"&'10 mut i64":               mutRef(10, anInt),
		"&'0 &i64":                   ref(0, ref(-1, anInt)),
		"&mut &i64":                  mutRef(-1, ref(-1, anInt)),
		"& &mut & &#7":               ref(-1, mutRef(-1, ref(-1, ref(-1, nth(7))))),
		"&Box<&Box<bool>>":           ref(-1, boxed(ref(-1, boxed(aBool)))),
		"&'9223372036854775807 bool": ref(1<<63-1, aBool),
	} {
		if got, e := types.Text(want); got != s || e != api.OK {
			t.Errorf("Text: %q, %v; want %q", got, e, s)
		}
		mustBe(t, s, read(t, s), api.OK, want)
	}
}

// P6.5: where texts that are none stop going on.
func TestReadStops(t *testing.T) {
	for s, want := range map[string]int{
		"": 0, " ": 0, " i64": 0, "x": 0, "\x00": 0, "\xff": 0, "0": 0, "'0": 0, "I64": 0, "mut i64": 0,
		"i": 1, "i6": 2, "i63": 2, "i64 ": 3, "i64i64": 3, "i64>": 3, "boo": 3, "box": 2, "bool\x00": 4,
		"#": 1, "#x": 1, "#-1": 1, "#00": 2, "#01": 2, "#32": 2, "#40": 2, "#310": 3, "#3 ": 2,
		"B": 1, "Bo": 2, "Box": 3, "Box<": 4, "Box <i64>": 3, "Box< i64>": 4, "Box<i64 >": 7, "Box<i64>>": 8, "Box<#32>": 6, "Box<>": 4,
		"&": 1, "& ": 2, "& i64": 2, "&  &i64": 2, "& mut i64": 2, "& '0 i64": 2, "& #0": 2, "& &": 3,
		"&m": 2, "&mut": 4, "&mut ": 5, "&muti64": 4, "&mut  i64": 5, "&mut mut i64": 5, "&mut '0 i64": 5, "&mut  &i64": 5, "&mut &&i64": 6,
		"&'": 2, "&' i64": 2, "&'a i64": 2, "&'-1 i64": 2, "&'00 i64": 3, "&'0": 3, "&'0i64": 3, "&'0 ": 4, "&'0  i64": 4, "&'0 '0 i64": 4, "&'0  &i64": 4,
		"&'0 mut mut i64": 8, "&'0 m": 5, "&'0\ti64": 3, "&'10000000000000000000 i64": 21, "&'9223372036854775807": 21, "&'92233720368547758070 i64": 21,
	} {
		if _, at, e := types.Read(s); at != want || e != api.ErrTypeText {
			t.Errorf("Read(%q): at %d, %v; want %d", s, at, e, want)
		}
		mustRead(t, s)
	}
}

// P6.5: Text and Read of all small chains, of the deepest ones, and of some by chance; and each beginning of their texts.
func TestTextAndRead(t *testing.T) {
	c := byChance(66)
	all := append(allChains(4, -1, 0, 12), deepest(api.MaxNest)...)
	for range 2000 {
		all = append(all, c.chain(8))
	}
	for _, x := range all {
		given := whole(x)
		s, e := types.Text(given)
		if want := plainText(x); s != want || e != api.OK {
			t.Fatalf("Text(%v): %q, %v; want %q", x, s, e, want)
		}
		mustBe(t, "what Text was handed", given, api.OK, whole(x))
		mustBe(t, s, read(t, s), api.OK, whole(x))
	}
	for _, x := range all[len(all)-2000:] {
		s := plainText(x)
		for n := range len(s) + 1 {
			mustRead(t, s[:n])
		}
	}
	for _, x := range wrongTypes() {
		if s, e := types.Text(x); s != "" || e != api.ErrArg {
			t.Fatalf("Text(%v): %q, %v", x, s, e)
		}
	}
	empty := api.Type{Kind: api.TyStruct, Struct: 2, Of: []api.Type{}}
	if s, e := types.Text(boxed(empty)); s != "Box<#2>" || e != api.OK {
		t.Errorf("Text of a list of nothing: %q, %v", s, e)
	}
}

// P6.5, P6.8: all texts of up to five of these pieces.
func TestReadSmallTexts(t *testing.T) {
	if testing.Short() {
		t.Skip("many texts")
	}
	pieces := []string{"i64", "Box<", ">", "&", "'", "mut ", "#", "0", "3", "2", " "}
	took := 0
	last := []string{""}
	for range 5 {
		var longer []string
		for _, s := range last {
			for _, p := range pieces {
				longer = append(longer, s+p)
				if mustRead(t, s+p) {
					took++
				}
			}
		}
		last = longer
	}
	if took < 50 {
		t.Errorf("only %d texts are types'", took)
	}
}

// P6.5, P6.8: texts of types with some bytes changed.
func TestReadChangedTexts(t *testing.T) {
	c := byChance(67)
	const bytes = "&&  ''mut#Box<>i64bool0123456789\x00\xff"
	for range 20000 {
		s := plainText(c.chain(6))
		for range 1 + c.Intn(2) {
			at, by := c.Intn(len(s)+1), c.Intn(len(bytes))
			end := min(len(s), at+c.Intn(3))
			s = s[:at] + bytes[by:by+c.Intn(2)] + s[end:]
		}
		mustRead(t, s)
	}
}

// P6.5: how far texts of types that would be too deep go: a type that has another one in it does not begin at the deepest place.
func TestReadDeep(t *testing.T) {
	for _, head := range []string{"Box<", "&'7 ", "&mut ", "&'7 mut ", "& "} {
		for deep := api.MaxNest - 4; deep <= api.MaxNest+2; deep++ {
			s := strings.Repeat(head, deep)
			for _, tail := range []string{"", "i64", "#31", "Box<", "&", "& ", "& &", "&i64", "&'", "&'1 i64", "&mut ", "&mut i64", "& &i64", "B", "bool", "Box<i64>", " ", ">"} {
				mustRead(t, s+tail)
				mustRead(t, s+tail+strings.Repeat(">", deep))
				mustRead(t, s+tail+strings.Repeat(">", deep-1))
			}
		}
	}
	boxes := strings.Repeat("Box<", api.MaxNest-2)
	for s, want := range map[string]int{
		boxes + "Box<Box<":             len(boxes) + 4,
		boxes + "Box<&":                len(boxes) + 4,
		boxes + "& &i64":               len(boxes) + 1,
		boxes + "& ":                   len(boxes) + 1,
		boxes + "&mut &":               len(boxes) + 5,
		boxes + "&i6":                  len(boxes) + 3,
		strings.Repeat("Box<", 100000): 4 * (api.MaxNest - 1),
		strings.Repeat("& ", 100000):   2*(api.MaxNest-1) - 1,
	} {
		if _, at, e := types.Read(s); at != want || e != api.ErrTypeText {
			t.Errorf("Read(%.300q): at %d, %v; want %d", s, at, e, want)
		}
	}
}
