package move_test

import (
	"maps"
	"regexp"
	"slices"
	"strings"
	"testing"

	"loanword/api"
	"loanword/graph"
	"loanword/move"
	"loanword/place"
)

// What the package is held against: the document's words, said in the slowest way of the texts of points that layer 10 tells, and of layer 9's Held. A path is its text; that is below another one, if it goes on from it behind a dot.

// asked is a graph of which the oracle is asked.
type asked struct {
	t     *testing.T
	u     api.Unit
	fn    int
	texts []string // what stands at each point, without where it goes on
	paths []string
	helds map[string]string // of places that were asked for
}

func ask(t *testing.T, u api.Unit, fn int) asked {
	t.Helper()
	x := asked{t: t, u: u, fn: fn, helds: map[string]string{}}
	l, e := graph.Lines(u, fn)
	x.ok(e)
	for _, s := range l {
		_, s, _ = strings.Cut(s, ": ")
		s, _, _ = strings.Cut(s, " -> ")
		x.texts = append(x.texts, s)
	}
	x.paths = x.movePaths()
	return x
}

func (x asked) ok(e api.Errno) {
	x.t.Helper()
	if e != api.OK {
		x.t.Fatalf("%s: %v", textOf(x.u, x.fn), e)
	}
}

var (
	anyPlace = regexp.MustCompile(`_[0-9]+(\.[0-9*]+)*`)
	read     = regexp.MustCompile(`(copy|move) (_[0-9.*]+)`)
	lent     = regexp.MustCompile(` = &(?:mut)? (_[0-9.*]+)$`)
	ended    = regexp.MustCompile(`^(?:drop|dead) (_[0-9.*]+)$`)
	laid     = regexp.MustCompile(`^(_[0-9.*]+) = `)
)

// held is how far a place goes through no reference.
func (x asked) held(p string) string {
	x.t.Helper()
	if _, known := x.helds[p]; !known {
		h, e := place.Held(x.u.Structs, x.u.Fns[x.fn].Locals, placeOf(p))
		x.ok(e)
		x.helds[p] = place.Text(h)
	}
	return x.helds[p]
}

// prefixes are all of a place: it, and what stands in it ahead of each of its dots.
func prefixes(p string) []string {
	l := []string{p}
	for n, letter := range p {
		if letter == '.' {
			l = append(l, p[:n])
		}
	}
	return l
}

func (x asked) movePaths() []string {
	x.t.Helper()
	all := map[string]bool{}
	for local := range x.u.Fns[x.fn].Locals {
		all[place.Text(api.Place{Local: local})] = true
	}
	for _, text := range x.texts {
		for _, p := range anyPlace.FindAllString(text, -1) {
			for _, q := range prefixes(x.held(p)) {
				all[q] = true
			}
		}
	}
	return slices.SortedFunc(maps.Keys(all), func(p, q string) int { return place.Order(placeOf(p), placeOf(q)) })
}

func (x asked) below(p string) []string {
	return slices.DeleteFunc(slices.Clone(x.paths), func(q string) bool { return !slices.Contains(prefixes(q), p) })
}

// numbers are those of some paths, rising.
func (x asked) numbers(l ...string) []int {
	var all []int
	for n, p := range x.paths {
		if slices.Contains(l, p) {
			all = append(all, n)
		}
	}
	return all
}

// deed is one step of a point: what is used, then what is taken, then what is given.
type deed struct{ uses, takes, gives []string }

func (x asked) deeds(q int) []deed {
	x.t.Helper()
	text := x.texts[q]
	whole := func(p string) []string {
		if x.held(p) != p {
			return prefixes(x.held(p))
		}
		return append(prefixes(p), x.below(p)...)
	}
	var l []deed
	for _, m := range read.FindAllStringSubmatch(text, -1) {
		d := deed{uses: whole(m[2])}
		if m[1] == "move" {
			d.takes = x.below(m[2])
		}
		l = append(l, d)
	}
	if m := lent.FindStringSubmatch(text); m != nil {
		l = append(l, deed{uses: whole(m[1])})
	}
	if m := ended.FindStringSubmatch(text); m != nil {
		l = append(l, deed{takes: x.below(m[1])})
	}
	if text == "return" {
		l = append(l, deed{uses: whole("_0")})
	}
	if m := laid.FindStringSubmatch(text); m != nil {
		p := m[1]
		if x.held(p) != p {
			return append(l, deed{uses: prefixes(x.held(p))})
		}
		proper := slices.DeleteFunc(prefixes(p), func(r string) bool { return r == p })
		l = append(l, deed{uses: proper, gives: x.below(p)})
	}
	return l
}

// behind are the paths that are without a value behind what is done, if these are ahead of it.
func (x asked) behind(l []deed, gone []int) []int {
	for _, d := range l {
		gone = slices.Concat(gone, x.numbers(d.takes...))
		gives := x.numbers(d.gives...)
		gone = slices.DeleteFunc(gone, func(p int) bool { return slices.Contains(gives, p) })
	}
	gone = slices.Clone(gone)
	slices.Sort(gone)
	return slices.Compact(gone)
}

// does says what is so whatever there was ahead: what is gone though nothing was, what is not though all was.
func (x asked) does(l []deed) (gone, has []int) {
	return x.behind(l, nil), without(len(x.paths), x.behind(l, count(0, len(x.paths))))
}

func (x asked) uses(l []deed) []int {
	var all []string
	for _, d := range l {
		all = append(all, d.uses...)
	}
	return x.numbers(all...)
}

// again is the least path that is used though it was moved; -1, if there is none.
func (x asked) again(l []deed) int {
	least := -1
	for n, d := range l {
		for _, ahead := range l[:n] {
			for _, p := range x.numbers(d.uses...) {
				if slices.Contains(x.numbers(ahead.takes...), p) && (least < 0 || p < least) {
					least = p
				}
			}
		}
	}
	return least
}

func (x asked) start() []int {
	return slices.DeleteFunc(count(0, len(x.paths)), func(n int) bool {
		local := placeOf(x.paths[n]).Local
		return local >= 1 && local <= x.u.Fns[x.fn].Params
	})
}

// mustHold asks all of a graph against the oracle: what is behind each point by none, by all, and by these paths.
func mustHold(t *testing.T, u api.Unit, fn int, goneLists ...[]int) asked {
	t.Helper()
	x := ask(t, u, fn)
	mustPaths(t, u, fn, strings.Join(x.paths, " "))
	mustStart(t, u, fn, x.start()...)
	for n, p := range x.paths {
		mustBelow(t, u, fn, n, x.numbers(x.below(p)...)...)
	}
	for q := range x.texts {
		mustHoldAt(x, q, goneLists...)
	}
	return x
}

// mustHoldAt asks the same of a point.
func mustHoldAt(x asked, q int, goneLists ...[]int) {
	t, u, fn := x.t, x.u, x.fn
	t.Helper()
	deeds := x.deeds(q)
	gone, has := x.does(deeds)
	mustDo(t, u, fn, q, gone, has)
	mustUse(t, u, fn, q, x.uses(deeds)...)
	mustAgain(t, u, fn, q, x.again(deeds))
	for _, l := range append(goneLists, nil, count(0, len(x.paths))) {
		mustBehind(t, u, fn, q, l, x.behind(deeds, l)...)
	}
}

// mustHoldPlaces asks for the path of each of these places against the oracle.
func mustHoldPlaces(x asked, l []api.Place) (are, none int) {
	x.t.Helper()
	for _, p := range l {
		if n := slices.Index(x.paths, x.held(place.Text(p))); n >= 0 {
			mustPath(x.t, x.u, x.fn, p, n)
			are++
		} else if n, e := move.Path(x.u, x.fn, p); n != 0 || e != api.ErrArg {
			x.t.Fatalf("%s: Path(%s): %d, %v", textOf(x.u, x.fn), place.Text(p), n, e)
		} else {
			none++
		}
	}
	return are, none
}
