package types_test

import (
	"testing"

	"loanword/api"
	"loanword/types"
)

// follows tells whether it follows of l, by going from Short to Long, that long outlives short.
func follows(l []api.Constraint, long, short int) bool {
	known := map[int]int{short: 1}
	for range l {
		for _, c := range l {
			if known[c.Short] == 1 {
				known[c.Long] = 1
			}
		}
	}
	return known[long] == 1
}

func mustAsk(t *testing.T, a, b chain) []api.Constraint {
	t.Helper()
	l, e := types.Asks(whole(a), whole(b))
	if e != api.OK {
		t.Fatalf("Asks(%v, %v): %v", a, b, e)
	}
	return l
}

// mustOrder asks that of a to b, and b to c, follows all of a to c.
func mustOrder(t *testing.T, a, b, c chain) {
	t.Helper()
	both := append(mustAsk(t, a, b), mustAsk(t, b, c)...)
	for _, x := range mustAsk(t, a, c) {
		if !follows(both, x.Long, x.Short) {
			t.Fatalf("%v, %v, %v: %v does not follow of %v", a, b, c, x, both)
		}
	}
}

// P6.6: Asks of a type and itself; of one, another one and a third one.
func TestOrder(t *testing.T) {
	c := byChance(68)
	all := append(allChains(4, 0), deepest(api.MaxNest)...)
	for _, x := range all {
		a, b, d := with(x, from(0)), with(x, from(100)), with(x, from(200))
		for _, y := range mustAsk(t, a, a) {
			if y.Long != y.Short {
				t.Fatalf("Asks of %v and itself: %v", a, y)
			}
		}
		mustOrder(t, a, b, d)
		mustOrder(t, a, b, a)
		few := func() int { return c.Intn(3) }
		mustOrder(t, with(x, few), with(x, few), with(x, few))
	}
}

// P6.6: Anew of a type's own regions is it; Number of a Number, from the same, is it.
func TestAnewAndNumberAgain(t *testing.T) {
	c := byChance(69)
	for range 3000 {
		x := whole(c.chain(api.MaxNest - 1))
		same, e := types.Anew(x, types.Regions(x)...)
		mustBe(t, "Anew of its regions", same, e, x)
		n := c.Intn(api.MaxRegions + 1)
		once, next, e := types.Number(x, n)
		if e != api.OK || !types.Alike(once, x) {
			t.Fatalf("Number(%v, %d): %v, %v", x, n, once, e)
		}
		twice, again, e := types.Number(once, n)
		mustBe(t, "Number of a Number", twice, e, once)
		if next != again {
			t.Fatalf("Number(%v, %d): next %d, then %d", x, n, next, again)
		}
	}
}

// P6.7: a struct has at least as many words as fields; what is to copy needs no dropping and has one word; what is alike has as many words and regions.
func TestWordsFollow(t *testing.T) {
	c := byChance(70)
	well := 0
	for range 6000 {
		s := c.structs(6, false)
		if _, e := types.Structs(s); e != api.OK {
			continue
		}
		well++
		for n, x := range s {
			if words, e := types.Words(s, nth(n)); e != api.OK || words < len(x.Fields) || words > api.MaxWords {
				t.Fatalf("Words(%v, %d): %d, %v", s, n, words, e)
			}
		}
		one := c.chain(4)
		other := with(one, c.region)
		a, b := whole(one), whole(other)
		words, e := types.Words(s, a)
		drops, f := types.Drops(s, a)
		if e != f || (e == api.OK) != types.May(s, a) {
			t.Fatalf("%v, %v: Words %v, Drops %v", s, a, e, f)
		}
		if e == api.OK && types.Copies(a) && (words != 1 || drops) {
			t.Fatalf("%v is to copy, has %d words, drops %v", a, words, drops)
		}
		if like, _ := types.Words(s, b); !types.Alike(a, b) || like != words || len(types.Regions(a)) != len(types.Regions(b)) {
			t.Fatalf("%v, %v: %d words, %d words", a, b, words, like)
		}
	}
	if well < 1000 {
		t.Errorf("only %d lists may be", well)
	}
}

// P6.8: Read of Text is the type. (That Text of what Read takes is the text is asked wherever the tests read.)
func TestReadOfText(t *testing.T) {
	c := byChance(71)
	for range 5000 {
		x := whole(c.chain(api.MaxNest - 1))
		s, e := types.Text(x)
		if e != api.OK {
			t.Fatalf("Text(%v): %v", x, e)
		}
		mustBe(t, s, read(t, s), api.OK, x)
	}
	texts := map[string]int{}
	for i, x := range allChains(4, -1, 0, 12) {
		s, _ := types.Text(whole(x))
		if at, twice := texts[s]; twice {
			t.Fatalf("%d and %d have one text: %q", at, i, s)
		}
		texts[s] = i
	}
}
