package place

import (
	"math"
	"strconv"
	"strings"

	"loanword/api"
)

// maxNumber is the greatest number that a place's text has.
const maxNumber = math.MaxInt64

// Text answers the text of p; none, if it has a number that no place has.
func Text(p api.Place) string {
	if p.Local < 0 {
		return ""
	}
	var text strings.Builder
	text.WriteString("_" + strconv.Itoa(p.Local))
	for _, step := range p.Path {
		switch {
		case step < api.Deref:
			return ""
		case step == api.Deref:
			text.WriteString(".*")
		default:
			text.WriteString("." + strconv.Itoa(int(step)))
		}
	}
	return text.String()
}

// Read answers the place whose text s is.
func Read(s string) (api.Place, api.Errno) {
	p, rest, ok := localAhead(s)
	for ok && rest != "" && len(p.Path) < api.MaxSteps {
		var step api.Step
		step, rest, ok = stepAhead(rest)
		p.Path = append(p.Path, step)
	}
	if !ok || rest != "" {
		return api.Place{}, api.ErrPlaceText
	}
	return p, api.OK
}

// localAhead reads the local with which s begins, and answers what stands behind it.
func localAhead(s string) (p api.Place, rest string, ok bool) {
	behind, ok := strings.CutPrefix(s, "_")
	if !ok {
		return api.Place{}, "", false
	}
	p.Local, rest, ok = numberAhead(behind)
	return p, rest, ok
}

// stepAhead reads the step with which s begins, and answers what stands behind it.
func stepAhead(s string) (step api.Step, rest string, ok bool) {
	behind, ok := strings.CutPrefix(s, ".")
	if !ok {
		return 0, "", false
	}
	if rest, ok = strings.CutPrefix(behind, "*"); ok {
		return api.Deref, rest, true
	}
	n, rest, ok := numberAhead(behind)
	return api.Step(n), rest, ok
}

// numberAhead reads the digits with which s begins, and tells whether they are a number's: of all of them, since behind a number no digit stands.
func numberAhead(s string) (n int, rest string, ok bool) {
	at := 0
digits:
	for at < len(s) {
		digit := int(s[at]) - '0'
		switch {
		case digit < 0 || digit > 9:
			break digits
		case at > 0 && n == 0, n > (maxNumber-digit)/10:
			return 0, "", false
		}
		n = n*10 + digit
		at++
	}
	return n, s[at:], at > 0
}
