package outlive_test

import (
	"fmt"
	"math"
	"slices"
	"strings"
	"testing"

	"loanword/api"
	"loanword/outlive"
)

// P15.3: the first constraint that says no, and of that the first bit; a row may have more.
func TestClosed(t *testing.T) {
	rows := rowsOf("0000 1011 1010 1111 0100")
	mustClosed(t, nil, rows, 0, 0, true)
	mustClosed(t, listed("0:0 4:4 1:2 3:1 3:2 3:4 3:0 4:0"), rows, 0, 0, true)
	mustClosed(t, listed("2:1"), rows, 0, 3, false)
	mustClosed(t, listed("1:2 2:1"), rows, 1, 3, false)
	mustClosed(t, listed("0:3"), rows, 0, 0, false)
	mustClosed(t, listed("1:3"), rows, 0, 1, false)
	mustClosed(t, listed("3:1 4:1 1:3 0:4"), rows, 1, 0, false)
	mustClosed(t, listed("3:1 0:4 4:1"), rows, 1, 1, false)
	mustClosed(t, listed("3:1 3:1 2:3 2:3"), rows, 2, 1, false)
}

// P15.3: no rows, and rows without bits.
func TestClosedOfNothing(t *testing.T) {
	mustClosed(t, nil, nil, 0, 0, true)
	mustClosed(t, []api.Constraint{}, []api.Row{}, 0, 0, true)
	mustClosed(t, nil, []api.Row{{}, {Words: []uint64{}}}, 0, 0, true)
	mustClosed(t, listed("0:1 1:0"), []api.Row{{}, {}}, 0, 0, true)
	mustNotClose(t, "no rows", listed("0:0"), nil)
}

// P15.3: widths at which a row's last word begins or is full, up to the greatest.
func TestClosedOfWideRows(t *testing.T) {
	for _, width := range []int{1, 63, 64, 65, 127, 128, 129, api.MaxPoints - 1, api.MaxPoints, api.MaxPoints + 1, api.MaxPoints + api.MaxLives} {
		none, all := strings.Repeat("0", width), strings.Repeat("1", width)
		for _, k := range []int{0, 1, 62, 63, 64, 65, 127, 128, 1000, width - 2, width - 1} {
			if k < 0 || k >= width {
				continue
			}
			one := none[:k] + "1" + none[k+1:]
			but := all[:k] + "0" + all[k+1:]
			rows := rowsOf(strings.Join([]string{none, one, but, all}, " "))
			mustClosed(t, listed("1:0 2:0 3:0 3:1 3:2 3:3"), rows, 0, 0, true)
			mustClosed(t, listed("3:1 0:1"), rows, 1, k, false)
			mustClosed(t, listed("3:2 2:3"), rows, 1, k, false)
			mustClosed(t, listed("2:1"), rows, 0, k, false)
			if width > 1 {
				mustClosed(t, listed("1:2"), rows, 0, strings.Index(but, "1"), false)
			}
		}
	}
}

// P15.3: all lists of two constraints, and all rows of three bits, of two regions; against the oracle.
func TestClosedOfAllSmallRows(t *testing.T) {
	for set := range 64 {
		texts := []string{fmt.Sprintf("%03b", set/8), fmt.Sprintf("%03b", set%8)}
		rows := rowsOf(strings.Join(texts, " "))
		for k := range 16 {
			l := []api.Constraint{{Long: k & 1, Short: k >> 1 & 1}, {Long: k >> 2 & 1, Short: k >> 3}}
			which, bit, is := plainClosed(l, texts)
			mustClosed(t, l, rows, which, bit, is)
		}
	}
}

// P15.3: rows by chance.
func TestClosedByChance(t *testing.T) {
	c := byChance(152)
	met := map[bool]int{}
	for range 2000 {
		count, width := 1+c.Intn(6), 1+c.Intn(150)
		var texts []string
		for range count {
			texts = append(texts, c.row(width, texts))
		}
		l := c.constraints(count, c.Intn(6))
		which, bit, is := plainClosed(l, texts)
		mustClosed(t, l, rowsOf(strings.Join(texts, " ")), which, bit, is)
		met[is]++
	}
	if met[true] < 300 || met[false] < 300 {
		t.Error(met)
	}
}

// P15.3: rows that may not be, or are of unlike widths, whether a constraint speaks of them or not.
func TestWrongRows(t *testing.T) {
	good := rowOf("101")
	for what, r := range map[string]api.Row{
		"a width below 0":         {Width: -1},
		"the least width":         {Width: math.MinInt},
		"the least, with a word":  {Width: math.MinInt, Words: make([]uint64, 1)},
		"a width above all":       {Width: api.MaxPoints + api.MaxLives + 1, Words: make([]uint64, 17)},
		"a very great width":      {Width: math.MaxInt},
		"a great width, no words": {Width: math.MaxInt - 62},
		"no word":                 {Width: 3},
		"a word too many":         {Width: 3, Words: make([]uint64, 2)},
		"a word beside nothing":   {Width: 0, Words: make([]uint64, 1)},
		"a bit behind":            {Width: 3, Words: []uint64{8}},
		"the last bit":            {Width: 3, Words: []uint64{1 << 63}},
		"a word too few":          {Width: 65, Words: make([]uint64, 1)},
		"full, a word too many":   {Width: 64, Words: make([]uint64, 2)},
		"a bit behind a word":     {Width: 65, Words: []uint64{0, 2}},
	} {
		for _, rows := range [][]api.Row{{r}, {r, r}, {good, r}, {r, good}, {good, good, r}} {
			mustNotClose(t, what, nil, rows)
			mustNotClose(t, what, listed("0:0"), rows)
		}
	}
	for _, s := range []string{"101 1010", "101 10", "1010 101 101", "101 101 " + strings.Repeat("1", 65)} {
		mustNotClose(t, s, nil, rowsOf(s))
		mustNotClose(t, s, listed("0:0 1:0"), rowsOf(s))
	}
	mustNotClose(t, "one without bits", nil, []api.Row{good, {}})
	mustNotClose(t, "one with", nil, []api.Row{{}, good})
}

// P15.3: constraints that speak of no row: told ahead of what says no.
func TestWrongConstraints(t *testing.T) {
	rows := rowsOf("100 010")
	for _, k := range []int{-1, 2, 3, api.MaxRegions, math.MinInt, math.MaxInt} {
		for _, c := range []api.Constraint{{Long: k}, {Short: k}, {Long: k, Short: k}} {
			mustNotClose(t, "alone", []api.Constraint{c}, rows)
			mustNotClose(t, "behind one that says no", append(listed("0:1 0:0"), c), rows)
			mustNotFrom(t, []api.Constraint{c}, 2, 0)
			mustNotFrom(t, append(listed("0:1 1:0"), c), 2, 1)
		}
	}
}

// P15.3: what is reached from Short to Long, it too; round, too; rising.
func TestFrom(t *testing.T) {
	l := listed("1:2 3:1")
	for region, want := range [][]int{{0}, {1, 3}, {1, 2, 3}, {3}} {
		mustFrom(t, l, 4, region, want...)
	}
	l = listed("0:9 5:0 9:5 2:5 2:2 7:8 4:7")
	for region, want := range [][]int{{0, 2, 5, 9}, {1}, {2}, {3}, {4}, {0, 2, 5, 9}, {6}, {4, 7}, {4, 7, 8}, {0, 2, 5, 9}} {
		mustFrom(t, l, 10, region, want...)
	}
	mustFrom(t, nil, 1, 0, 0)
	mustFrom(t, nil, 4, 3, 3)
	mustFrom(t, listed("0:0 0:0"), 1, 0, 0)
	mustFrom(t, listed("1:0 1:0 2:0 3:1 3:2"), 4, 0, 0, 1, 2, 3)
}

// P15.3: counts and regions that may not be.
func TestWrongCounts(t *testing.T) {
	for _, count := range []int{-1, math.MinInt, api.MaxRegions + 1, math.MaxInt} {
		for _, region := range []int{-1, 0, 1, count - 1} {
			mustNotFrom(t, nil, count, region)
			mustNotFrom(t, listed("0:0"), count, region)
		}
	}
	for _, count := range []int{0, 1, 2, api.MaxRegions} {
		for _, region := range []int{-1, math.MinInt, count, count + 1, math.MaxInt} {
			mustNotFrom(t, nil, count, region)
		}
	}
	mustNotFrom(t, listed("0:0"), 0, 0)
	mustNotFrom(t, listed("1:0"), 1, 0)
	mustNotFrom(t, listed("1:3 3:2"), 3, 1)
	mustFrom(t, listed("511:0"), api.MaxRegions, 0, 0, 511)
	mustFrom(t, listed("0:511"), api.MaxRegions, 511, 0, 511)
}

// P15.3: all sets of constraints between three regions: against the oracle.
func TestFromOfAllSmallLists(t *testing.T) {
	for set := range 1 << 9 {
		var l []api.Constraint
		for k := range 9 {
			if set>>k&1 == 1 {
				l = append(l, api.Constraint{Long: k / 3, Short: k % 3})
			}
		}
		for region := range 3 {
			want := plainFrom(l, 3, region)
			mustFrom(t, l, 3, region, want...)
			slices.Reverse(l)
			mustFrom(t, l, 3, region, want...)
		}
	}
}

// P15.3, P15.5: lists by chance: against the oracle; of what it tells it tells no more; with more constraints no less.
func TestFromByChance(t *testing.T) {
	c := byChance(153)
	for range 300 {
		count := 1 + c.Intn(40)
		l := c.constraints(count, c.Intn(2*count))
		more := append(slices.Clone(l), c.constraints(count, 1+c.Intn(3))...)
		for region := range count {
			from := plainFrom(l, count, region)
			mustFrom(t, l, count, region, from...)
			greater, e := outlive.From(more, count, region)
			if e != api.OK || !hasAll(greater, from) {
				t.Fatalf("From(%s; %d): %v; with more %v, %v", said(l), region, from, greater, e)
			}
			for _, k := range from {
				again, e := outlive.From(l, count, k)
				if e != api.OK || !hasAll(from, again) {
					t.Fatalf("From(%s; %d): %v; of %d %v, %v", said(l), region, from, k, again, e)
				}
			}
		}
	}
}

// hasAll tells whether a has all of b.
func hasAll(a, b []int) bool {
	return !slices.ContainsFunc(b, func(k int) bool { return !slices.Contains(a, k) })
}

// P15.5: rows of one region's bit alone are closed, when just those have it that From tells; if one of these has it not, they are not.
func TestFromIsLeast(t *testing.T) {
	c := byChance(154)
	for range 200 {
		count := 1 + c.Intn(20)
		l := c.constraints(count, c.Intn(2*count))
		region := c.Intn(count)
		from, e := outlive.From(l, count, region)
		if e != api.OK {
			t.Fatal(e)
		}
		rows := make([]api.Row, count)
		for k := range rows {
			rows[k] = rowOf("0")
		}
		for _, k := range from {
			rows[k] = rowOf("1")
		}
		mustClosed(t, l, rows, 0, 0, true)
		for _, k := range from {
			if k == region {
				continue
			}
			rows[k] = rowOf("0")
			if _, bit, is, e := outlive.Closed(l, rows); is || bit != 0 || e != api.OK {
				t.Fatalf("From(%s; %d): %v; without %d: %v, %v", said(l), region, from, k, is, e)
			}
			rows[k] = rowOf("1")
		}
	}
}

// P15.5: rows that are grown till they are closed: whatever region's row has a bit, all rows of From have it.
func TestClosedRowsHaveFrom(t *testing.T) {
	c := byChance(155)
	for range 100 {
		count, width := 1+c.Intn(12), 1+c.Intn(80)
		l := c.constraints(count, c.Intn(2*count))
		rows := grown(t, l, c.rows(count, width))
		for region, r := range rows {
			from, e := outlive.From(l, count, region)
			if e != api.OK {
				t.Fatal(e)
			}
			for _, k := range from {
				mustClosed(t, []api.Constraint{{Long: k, Short: region}}, rows, 0, 0, true)
				for i, word := range r.Words {
					if word&^rows[k].Words[i] != 0 {
						t.Fatalf("%s: the row %d has not all of %d", said(l), k, region)
					}
				}
			}
		}
	}
}

// grown are the rows, with each bit that Closed finds wanting, one after the other.
func grown(t *testing.T, l []api.Constraint, rows []api.Row) []api.Row {
	t.Helper()
	for {
		which, bit, is, e := outlive.Closed(l, rows)
		if e != api.OK {
			t.Fatal(e)
		}
		if is {
			return rows
		}
		word := &rows[l[which].Long].Words[bit/64]
		if *word>>(bit%64)&1 == 1 {
			t.Fatalf("%s: the row %d has %d", said(l), l[which].Long, bit)
		}
		*word |= 1 << (bit % 64)
	}
}
