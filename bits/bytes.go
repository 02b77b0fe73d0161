package bits

import "loanword/api"

const byteBits = 8

// Bytes answers the bytes of r.
func Bytes(r api.Row) (string, api.Errno) {
	if !May(r) {
		return "", api.ErrArg
	}
	out := make([]byte, byteCount(r.Width))
	k := 0
	put := func(set bool) {
		if set {
			out[k/byteBits] |= byteBit(k)
		}
		k++
	}
	for i := range r.Width {
		put(Get(r, i))
	}
	return string(out), api.OK
}

// Read answers the row of that width whose bytes s is; at tells of other bytes how far they go well.
func Read(width int, s string) (r api.Row, at int, e api.Errno) {
	r, e = New(width)
	if e != api.OK {
		return api.Row{}, 0, e
	}
	if n := goesWell(width, s); n != len(s) || n != byteCount(width) {
		return api.Row{}, n, api.ErrBits
	}
	k := 0
	put := func(set bool) {
		if set {
			r.Words[k/wordBits] |= wordBit(k)
		}
		k++
	}
	for i := range width {
		put(s[i/byteBits]&byteBit(i) != 0)
	}
	return r, 0, api.OK
}

// goesWell tells the length of the longest beginning of s with which the bytes of a row of that width begin.
func goesWell(width int, s string) int {
	n := min(len(s), byteCount(width))
	used := width % byteBits
	// Only the last byte can be wrong: it alone has bits that are none of the row's.
	if n == byteCount(width) && used != 0 && s[n-1]<<used != 0 {
		n--
	}
	return n
}

func byteCount(width int) int { return (width + byteBits - 1) / byteBits }

func byteBit(k int) byte { return 128 >> (k % byteBits) }
