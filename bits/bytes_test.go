package bits_test

import (
	"strings"
	"testing"

	"loanword/api"
	"loanword/bits"
)

// plainBytes are the bytes of a row as the chapter's section Words says them.
func plainBytes(p plain) string {
	out := make([]byte, (len(p)+7)/8)
	for k, set := range p {
		if set {
			out[k/8] += 128 >> (k % 8)
		}
	}
	return string(out)
}

// P1.4: the examples of the chapter.
func TestBytesExamples(t *testing.T) {
	row := with(10, 0, 9)
	if s, e := bits.Bytes(row); s != "\x80\x40" || e != api.OK {
		t.Errorf("Bytes: %q, %v", s, e)
	}
	r, at, e := bits.Read(10, "\x80\x40")
	mustBe(t, "Read", r, e, row)
	if at != 0 {
		t.Errorf("Read: a row at %d", at)
	}
	mustNotRead(t, 10, "\x80\x41", 1)
	mustNotRead(t, 10, "\x80", 1)
	mustNotRead(t, 10, "\x80\x40\x00", 2)
}

// P1.4: Bytes, and Read of them.
func TestBytesAndRead(t *testing.T) {
	for _, width := range edgeWidths {
		for _, p := range somePlains(width) {
			r := rowOf(p)
			s, e := bits.Bytes(r)
			if want := plainBytes(p); s != want || e != api.OK {
				t.Fatalf("Bytes(%v): %q, %v; want %q", r, s, e, want)
			}
			mustBe(t, "what Bytes was handed", r, api.OK, rowOf(p))
			x, at, e := bits.Read(width, s)
			mustBe(t, "Read", x, e, r)
			if at != 0 {
				t.Fatalf("Read(%d, %q): a row at %d", width, s, at)
			}
		}
	}
	for _, r := range wrongRows() {
		if s, e := bits.Bytes(r); s != "" || e != api.ErrArg {
			t.Fatalf("Bytes(%v): %q, %v", r, s, e)
		}
	}
}

// P1.4: a width that may not be comes ahead of what the bytes are.
func TestReadWrongWidth(t *testing.T) {
	for _, width := range wrongWidths {
		for _, s := range []string{"", "\x00", "\x80\x41", strings.Repeat("\xff", 130)} {
			r, at, e := bits.Read(width, s)
			mustFail(t, "Read", r, e)
			if at != 0 {
				t.Fatalf("Read(%d, ..): ErrArg at %d", width, at)
			}
		}
	}
}

func mustNotRead(t *testing.T, width int, s string, place int) {
	t.Helper()
	r, at, e := bits.Read(width, s)
	if e != api.ErrBits || at != place || !isZero(r) {
		t.Fatalf("Read(%d, %q): %v, %d, %v; want ErrBits at %d", width, s, r, at, e, place)
	}
}

// P1.4: of each row of few bits, each text of few bytes, held against all rows of that width.
func TestReadAllShort(t *testing.T) {
	for width := 0; width <= 10; width++ {
		begins, whole := map[string]bool{"": true}, map[string]plain{}
		for _, p := range allPlains(width) {
			s := plainBytes(p)
			whole[s] = p
			for n := range len(s) + 1 {
				begins[s[:n]] = true
			}
		}
		for _, s := range shortTexts() {
			if p, is := whole[s]; is {
				r, at, e := bits.Read(width, s)
				mustBe(t, "Read", r, e, rowOf(p))
				if at != 0 {
					t.Fatalf("Read(%d, %q): a row at %d", width, s, at)
				}
				continue
			}
			n := len(s)
			for !begins[s[:n]] {
				n--
			}
			mustNotRead(t, width, s, n)
		}
	}
}

// shortTexts are all texts of up to two bytes, and some of three.
func shortTexts() []string {
	l := []string{""}
	for a := range 256 {
		l = append(l, string([]byte{byte(a)}))
		for b := range 256 {
			two := string([]byte{byte(a), byte(b)})
			l = append(l, two)
			if a%37 == 0 {
				l = append(l, two+"\x00", two+"\x80")
			}
		}
	}
	return l
}

// P1.4: too few bytes, too many, a bit behind the row's, both.
func TestReadWrongBytes(t *testing.T) {
	for _, width := range edgeWidths {
		for _, p := range somePlains(width) {
			s := plainBytes(p)
			for n := range len(s) {
				mustNotRead(t, width, s[:n], n)
			}
			mustNotRead(t, width, s+"\x00", len(s))
			mustNotRead(t, width, s+"\xff\x00", len(s))
			for k := width; k < 8*len(s); k++ {
				over := []byte(s)
				over[k/8] |= 128 >> (k % 8)
				mustNotRead(t, width, string(over), len(s)-1)
				mustNotRead(t, width, string(over)+"\x00", len(s)-1)
			}
		}
	}
	mustNotRead(t, 0, strings.Repeat("\x00", 1<<20), 0)
	mustNotRead(t, widest, strings.Repeat("\xff", 1<<20), widest/8)
}
