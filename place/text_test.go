package place_test

import (
	"math"
	"math/big"
	"reflect"
	"regexp"
	"slices"
	"strconv"
	"strings"
	"testing"

	"loanword/api"
	"loanword/place"
)

// plainText is the text of a place of any numbers of places.
func plainText(p api.Place) string {
	s := "_" + strconv.Itoa(p.Local)
	for _, step := range p.Path {
		s += "." + strings.Replace(strconv.Itoa(int(step)), "-1", "*", 1)
	}
	return s
}

var placeText = regexp.MustCompile(`\A_(?:0|[1-9][0-9]*)(?:\.(?:\*|0|[1-9][0-9]*)){0,8}\z`)

// plainRead is the place of a text, if it is one's.
func plainRead(s string) (p api.Place, ok bool) {
	if !placeText.MatchString(s) {
		return p, false
	}
	var numbers []int
	for _, x := range strings.Split(s[1:], ".") {
		n, _ := new(big.Int).SetString(strings.Replace(x, "*", "-1", 1), 10)
		if n.Cmp(big.NewInt(math.MaxInt64)) > 0 {
			return p, false
		}
		numbers = append(numbers, int(n.Int64()))
	}
	p.Local = numbers[0]
	for _, n := range numbers[1:] {
		p.Path = append(p.Path, api.Step(n))
	}
	return p, true
}

// mustRead holds Read of s against the words; what it takes is told as s again (P9.6).
func mustRead(t *testing.T, s string) bool {
	t.Helper()
	want, is := plainRead(s)
	p, e := place.Read(s)
	if !is {
		if e != api.ErrPlaceText || p.Local != 0 || len(p.Path) != 0 {
			t.Fatalf("Read(%.60q): %v, %v; want ErrPlaceText", s, p, e)
		}
		return false
	}
	if e != api.OK || p.Local != want.Local || !slices.Equal(p.Path, want.Path) {
		t.Fatalf("Read(%q): %v, %v; want %v", s, p, e, want)
	}
	if back := place.Text(p); back != s {
		t.Fatalf("Text(Read(%q)): %q", s, back)
	}
	return true
}

// P9.3: the chapter's examples.
func TestTextExamples(t *testing.T) {
	if s := place.Text(at(2, deref, 1)); s != "_2.*.1" {
		t.Errorf("%q", s)
	}
	if p, e := place.Read("_2.*.1"); e != api.OK || !reflect.DeepEqual(p, at(2, deref, 1)) {
		t.Errorf("%v, %v", p, e)
	}
	for _, s := range []string{"_02", "_1."} {
		if p, e := place.Read(s); e != api.ErrPlaceText || p.Local != 0 || len(p.Path) != 0 {
			t.Errorf("Read(%q): %v, %v", s, p, e)
		}
	}
}

// P9.3, P9.6: texts and the places that they are.
func TestTexts(t *testing.T) {
	const most = "9223372036854775807"
	for s, want := range map[string]api.Place{
		"_0":                       at(0),
		"_10":                      at(10),
		"_1.0":                     at(1, 0),
		"_1.10.*":                  at(1, 10, deref),
		"_" + most:                 at(math.MaxInt64),
		"_" + most + ".*." + most:  at(math.MaxInt64, deref, math.MaxInt64),
		"_511.*.0.*.7.*.*.1.20":    at(511, deref, 0, deref, 7, deref, deref, 1, 20),
		"_0.*.*.*.*.*.*.*.*":       at(0, deref, deref, deref, deref, deref, deref, deref, deref),
		"_999.0.0.0.0.0.0.0.10000": at(999, 0, 0, 0, 0, 0, 0, 0, 10000),
	} {
		if got := place.Text(want); got != s {
			t.Errorf("Text(%v): %q; want %q", want, got, s)
		}
		if p := read(t, s); !place.Same(p, want) {
			t.Errorf("Read(%q): %v", s, p)
		}
		mustRead(t, s)
	}
}

// P9.3: no text of a Local below 0, nor of a step below -1, wherever it stands; of more steps than a place has there is one, which is not read.
func TestTextOfOthers(t *testing.T) {
	for _, p := range []api.Place{at(-1), at(-1, 0), at(math.MinInt), at(math.MinInt, deref), at(0, -2), at(0, math.MinInt), at(3, 1, deref, -2), at(3, -2, 1), at(3, 0, -7, 0)} {
		if s := place.Text(p); s != "" {
			t.Errorf("Text(%v): %q", p, s)
		}
	}
	for _, n := range []int{api.MaxSteps + 1, api.MaxSteps + 2, 1000} {
		p := at(4, slices.Repeat([]api.Step{deref, 12}, n)[:n]...)
		s := place.Text(p)
		if s != plainText(p) {
			t.Errorf("Text of %d steps: %.60q", n, s)
		}
		mustRead(t, s)
		p.Path[n-1] = -2
		if s := place.Text(p); s != "" {
			t.Errorf("Text of %d steps, the last one wrong: %.60q", n, s)
		}
	}
}

// P9.3: texts that are no place's.
func TestReadWrongTexts(t *testing.T) {
	eight, digits := strings.Repeat(".*", api.MaxSteps), strings.Repeat("9", 100000)
	for _, s := range []string{
		"", "_", "__", "0", "1", ".", "*", "_*", "_.", "_.0", "_-1", "_+1", "_a", "_ 1", " _1", "_1 ", "_1\n", "_1\x00", "\x00", "\xff", "_\xff", "_1\xff",
		"_00", "_01", "_0.00", "_0.01", "_0.-1", "_0.+1", "_1.", "_1..", "_1..0", "_1.*.", "_1.**", "_1.*0", "_1.0*", "_1*", "_1.*1", "_1 .0", "_1. 0", "_1._0", "_1_0", "_1,0", "_1.x", "_1.0x1", "_0x1", "_1e3", "_1_000",
		"_9223372036854775808", "_9223372036854775810", "_10000000000000000000", "_18446744073709551616", "_18446744073709551617", "_99999999999999999999", "_92233720368547758070",
		"_0.9223372036854775808", "_0.18446744073709551615", "_0.18446744073709551616.*", "_١", "_1.٣", "＿1",
		"_0" + eight + ".*", "_0" + eight + ".0", "_0" + eight + ".", "_0" + eight + "x", "_0" + eight + "0", "_" + digits, "_0." + digits, "_0" + strings.Repeat(".0", 100000), strings.Repeat("_", 100000), "_0" + strings.Repeat("0", 100000),
	} {
		if mustRead(t, s) {
			t.Errorf("Read(%.60q) takes it", s)
		}
	}
}

// P9.3, P9.6: all texts of up to six of these pieces.
func TestReadSmallTexts(t *testing.T) {
	took := 0
	last := []string{"", "_"}
	for range 6 {
		var longer []string
		for _, s := range last {
			for _, piece := range []string{"_", ".", "*", "0", "1", "9", "x"} {
				longer = append(longer, s+piece)
				if mustRead(t, s+piece) {
					took++
				}
			}
		}
		last = longer
	}
	if took < 1000 {
		t.Errorf("only %d texts are places'", took)
	}
}

// P9.3, P9.6: each byte at each place of a text, laid between two and in one's stead.
func TestReadEachByte(t *testing.T) {
	const s = "_12.*.0.34"
	for i := range len(s) + 1 {
		for b := range 256 {
			mustRead(t, s[:i]+string([]byte{byte(b)}))
			mustRead(t, s[:i]+string([]byte{byte(b)})+s[i:])
			mustRead(t, s[:i]+string([]byte{byte(b)})+s[min(i+1, len(s)):])
		}
	}
}

// P9.3: numbers about the greatest one, and with each digit changed.
func TestReadGreatNumbers(t *testing.T) {
	const most = "9223372036854775807"
	for i := range most {
		for digit := byte('0'); digit <= '9'; digit++ {
			s := most[:i] + string(digit) + most[i+1:]
			mustRead(t, "_"+s)
			mustRead(t, "_"+s+"0")
			mustRead(t, "_3."+s)
			mustRead(t, "_3.*."+s+".*")
			mustRead(t, "_1"+s)
		}
	}
}

// P9.3, P9.6: Read of Text of places by chance is the place; no two small ones have one text.
func TestReadOfText(t *testing.T) {
	c := byChance(93)
	for range 20000 {
		p := at([]int{0, 1, 9, 10, c.Intn(1000), c.Intn(math.MaxInt), math.MaxInt}[c.Intn(7)])
		for range c.Intn(api.MaxSteps + 1) {
			if step := c.step(); step >= deref {
				p.Path = append(p.Path, step)
			}
		}
		s := place.Text(p)
		if s != plainText(p) || !place.Same(read(t, s), p) {
			t.Fatalf("%v: %q, %v", p, s, read(t, s))
		}
	}
	texts := map[string]int{}
	for _, path := range allPaths(4, deref, 0, 1, 10, 11) {
		for _, local := range []int{0, 1, 10, 11} {
			texts[place.Text(at(local, path...))]++
		}
	}
	if len(texts) != 4*(1+5+25+125+625) {
		t.Errorf("%d texts", len(texts))
	}
}

// P9.3, P9.6: texts of places with some bytes changed, left out or more.
func TestReadChangedTexts(t *testing.T) {
	c := byChance(94)
	const bytes = "__..**0123456789 -x\x00\xff"
	w := richWorld(t)
	took := 0
	for range 30000 {
		s := plainText(c.place(w, api.MaxSteps+1, 1<<30))
		for range 1 + c.Intn(2) {
			from, by := c.Intn(len(s)+1), c.Intn(len(bytes))
			end := min(len(s), from+c.Intn(3))
			s = s[:from] + bytes[by:by+c.Intn(2)] + s[end:]
		}
		if mustRead(t, s) {
			took++
		}
	}
	if took < 1000 {
		t.Errorf("only %d texts are places'", took)
	}
}
