package types

import (
	"math"
	"strconv"
	"strings"

	"loanword/api"
)

const (
	maxRegion = math.MaxInt64
	maxStruct = api.MaxItems - 1
)

// Text answers the text of t.
func Text(t api.Type) (string, api.Errno) {
	if !maySomewhere(t) {
		return "", api.ErrArg
	}
	var text strings.Builder
	write(&text, t)
	return text.String(), api.OK
}

// Read answers the type whose text s is; of any other s how far it is the beginning of one's text.
func Read(s string) (api.Type, int, api.Errno) {
	r := &reader{text: s}
	t, ok := r.typeAt(1)
	if !ok || r.at < len(s) {
		return api.Type{}, r.at, api.ErrTypeText
	}
	return t, 0, api.OK
}

func write(text *strings.Builder, t api.Type) {
	switch t.Kind {
	case api.TyInt:
		text.WriteString("i64")
	case api.TyBool:
		text.WriteString("bool")
	case api.TyStruct:
		text.WriteString("#" + strconv.Itoa(t.Struct))
	case api.TyBox:
		text.WriteString("Box<")
		write(text, t.Of[0])
		text.WriteString(">")
	case api.TyRef:
		text.WriteString(refHead(t))
		write(text, t.Of[0])
	}
}

// refHead is what stands in a reference's text ahead of what it points to.
func refHead(t api.Type) string {
	head := "&"
	if t.Region >= 0 {
		head += "'" + strconv.Itoa(t.Region) + " "
	}
	if t.Mut {
		head += "mut "
	}
	if head == "&" && t.Of[0].Kind == api.TyRef {
		head += " " // && is another sign
	}
	return head
}

// reader reads a text from its beginning. It goes on over a byte only if some type's text begins with all bytes up to it and with it: where it fails, at tells how far the text goes well.
type reader struct {
	text string
	at   int
}

// ahead is the next byte; 0, which no type's text has, at the end.
func (r *reader) ahead() byte {
	if r.at == len(r.text) {
		return 0
	}
	return r.text[r.at]
}

// take goes over word, as far as it stands there, and tells whether all of it does.
func (r *reader) take(word string) bool {
	for i := range len(word) {
		if r.ahead() != word[i] {
			return false
		}
		r.at++
	}
	return true
}

// typeAt reads a type, told how deep it stands: at the deepest place one that has another one in it does not begin.
func (r *reader) typeAt(deep int) (api.Type, bool) {
	switch first := r.ahead(); {
	case first == 'i':
		return api.Type{Kind: api.TyInt}, r.take("i64")
	case first == 'b':
		return api.Type{Kind: api.TyBool}, r.take("bool")
	case first == '#':
		r.at++
		n, ok := r.number(maxStruct)
		return api.Type{Kind: api.TyStruct, Struct: n}, ok
	case first == 'B' && deep < api.MaxNest:
		return r.box(deep)
	case first == '&' && deep < api.MaxNest:
		return r.reference(deep)
	}
	return api.Type{}, false
}

func (r *reader) box(deep int) (api.Type, bool) {
	if !r.take("Box<") {
		return api.Type{}, false
	}
	of, ok := r.typeAt(deep + 1)
	return api.Type{Kind: api.TyBox, Of: []api.Type{of}}, ok && r.take(">")
}

func (r *reader) reference(deep int) (api.Type, bool) {
	r.at++
	t := api.Type{Kind: api.TyRef, Region: -1}
	ok := true
	if r.ahead() == '\'' {
		t.Region, ok = r.region()
	}
	if ok && r.ahead() == 'm' {
		t.Mut, ok = true, r.take("mut ")
	}
	if ok && t.Region < 0 && !t.Mut {
		ok = r.apart(deep)
	}
	if !ok {
		return api.Type{}, false
	}
	of, ok := r.typeAt(deep + 1)
	t.Of = []api.Type{of}
	return t, ok
}

// region reads a region with its quote and its blank.
func (r *reader) region() (int, bool) {
	r.at++
	n, ok := r.number(maxRegion)
	return n, ok && r.take(" ")
}

// apart reads what stands between an & alone, that deep, and what it points to: a blank ahead of another &, else nothing.
func (r *reader) apart(deep int) bool {
	if r.ahead() != ' ' {
		return r.ahead() != '&'
	}
	// The blank is there only if another & comes, and that is no type at the deepest place.
	if deep+1 == api.MaxNest {
		return false
	}
	r.at++
	return r.ahead() == '&'
}

// number reads digits as long as they are those of a number of at most most, and tells whether there is one.
func (r *reader) number(most int) (int, bool) {
	n, from := 0, r.at
	for '0' <= r.ahead() && r.ahead() <= '9' {
		digit := int(r.ahead() - '0')
		if n > (most-digit)/10 || n == 0 && r.at > from {
			break
		}
		n = n*10 + digit
		r.at++
	}
	return n, r.at > from
}
