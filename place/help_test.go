package place_test

import (
	"fmt"
	"math"
	"math/rand"
	"reflect"
	"regexp"
	"slices"
	"strconv"
	"strings"
	"testing"

	"loanword/api"
	"loanword/place"
	"loanword/types"
)

const deref = api.Deref

var depths = []api.Depth{api.Shallow, api.Dropping, api.Deep}

// world is structs and locals, as the texts of their types and as they are handed in.
type world struct {
	fieldTexts [][]string
	localTexts []string
	structs    []api.Struct
	locals     []api.Type
}

// newWorld has structs, each as the texts of its fields' types, and locals.
func newWorld(t *testing.T, structs [][]string, locals ...string) world {
	t.Helper()
	w := world{fieldTexts: structs, localTexts: locals}
	for _, fields := range structs {
		var s api.Struct
		for _, f := range fields {
			s.Fields = append(s.Fields, api.Field{Type: typeOf(t, f)})
		}
		w.structs = append(w.structs, s)
	}
	for _, l := range locals {
		w.locals = append(w.locals, typeOf(t, l))
	}
	return w
}

func typeOf(t *testing.T, s string) api.Type {
	t.Helper()
	x, _, e := types.Read(s)
	if e != api.OK {
		t.Fatalf("%q is no type: %v", s, e)
	}
	return x
}

// chapterWorld is the one of the chapter's examples.
func chapterWorld(t *testing.T) world {
	return newWorld(t, [][]string{{"i64", "Box<i64>"}}, "i64", "#0", "&mut #0", "&#0")
}

// richWorld has all that a step goes from, within one another.
func richWorld(t *testing.T) world {
	eight := strings.Split("i64,bool,Box<#0>,#0,#1,Box<Box<i64>>,i64,Box<#2>", ",")
	return newWorld(t, [][]string{{"i64", "Box<i64>"}, {"#0", "Box<#1>", "bool"}, eight, {"#2"}},
		"i64", "bool", "#0", "Box<i64>", "&'3 mut #1", "&'0 #1", "#2", "Box<&'1 mut Box<&'2 #3>>", "& &mut &'7 mut Box<#1>",
		"&mut & &mut i64", "Box<Box<Box<#3>>>", "#3", "&'9223372036854775807 mut #2", "&bool", "Box<&mut &mut Box<& &Box<&mut Box<i64>>>>")
}

func at(local int, path ...api.Step) api.Place { return api.Place{Local: local, Path: path} }

// read is the place of a text.
func read(t *testing.T, s string) api.Place {
	t.Helper()
	p, e := place.Read(s)
	if e != api.OK {
		t.Fatalf("Read(%q): %v", s, e)
	}
	return p
}

var (
	boxText = regexp.MustCompile(`^Box<(.*)>$`)
	refText = regexp.MustCompile(`^&(?:'[0-9]+ )?(mut )?( ?)(.*)$`)
)

// plainWay is the text of a place's type, and how its steps go: by the texts of types alone.
func (w world) plainWay(p api.Place) (to string, goes []int, ok bool) {
	if p.Local < 0 || p.Local >= len(w.localTexts) || len(p.Path) > 8 {
		return "", nil, false
	}
	to = w.localTexts[p.Local]
	for _, step := range p.Path {
		box, ref := boxText.FindStringSubmatch(to), refText.FindStringSubmatch(to)
		switch {
		case step == -1 && box != nil:
			to, goes = box[1], append(goes, 1)
		case step == -1 && ref != nil && ref[1] == "mut ":
			to, goes = ref[3], append(goes, 2)
		case step == -1 && ref != nil:
			to, goes = ref[3], append(goes, 3)
		case step >= 0 && to[0] == '#':
			n, _ := strconv.Atoi(to[1:])
			if int(step) >= len(w.fieldTexts[n]) {
				return "", nil, false
			}
			to, goes = w.fieldTexts[n][step], append(goes, 0)
		default:
			return "", nil, false
		}
	}
	return to, goes, true
}

// plainWithin is what Within tells of two places that may be.
func (w world) plainWithin(p, q api.Place, d api.Depth) bool {
	if !plainPrefix(p, q) {
		return false
	}
	_, goes, _ := w.plainWay(q)
	rest := fmt.Sprint(goes[len(p.Path):])
	return !strings.ContainsAny(rest, map[api.Depth]string{api.Shallow: "123", api.Dropping: "23", api.Deep: "3"}[d])
}

// spelt is a place as a text that tells any two apart, and begins with that of just its prefixes.
func spelt(p api.Place) string {
	s := fmt.Sprint(p.Local, "/")
	for _, step := range p.Path {
		s += fmt.Sprint(int(step), "/")
	}
	return s
}

func plainPrefix(p, q api.Place) bool { return strings.HasPrefix(spelt(q), spelt(p)) }

// allPaths are all paths of up to so many of these steps.
func allPaths(most int, steps ...api.Step) [][]api.Step {
	all := [][]api.Step{nil}
	last := all
	for range most {
		var longer [][]api.Step
		for _, path := range last {
			for _, step := range steps {
				longer = append(longer, append(slices.Clone(path), step))
			}
		}
		all = append(all, longer...)
		last = longer
	}
	return all
}

// allPlaces are all places of a world's locals of up to so many steps.
func (w world) allPlaces(most int) []api.Place {
	var l []api.Place
	for local := range w.locals {
		last := []api.Place{at(local)}
		for k := 0; len(last) > 0; k++ {
			l = append(l, last...)
			var longer []api.Place
			for _, p := range last {
				for step := deref; k < most && step < api.MaxFields; step++ {
					q := at(local, append(slices.Clone(p.Path), step)...)
					if _, _, ok := w.plainWay(q); ok {
						longer = append(longer, q)
					}
				}
			}
			last = longer
		}
	}
	return l
}

// wrongPlaces are places that may not be among a world's locals, whichever they are.
func (w world) wrongPlaces() []api.Place {
	n := len(w.locals)
	l := []api.Place{at(-1), at(n), at(n + 1), at(math.MaxInt), at(math.MinInt), at(-1, deref), at(n, 0)}
	for local := range w.locals {
		l = append(l, at(local, -2), at(local, math.MinInt), at(local, 8), at(local, math.MaxInt))
		l = append(l, at(local, deref, -2), at(local, 0, -2), at(local, deref, 8), at(local, 0, math.MaxInt))
		l = append(l, api.Place{Local: local, Path: make([]api.Step, 9)}, api.Place{Local: local, Path: make([]api.Step, 70000)})
		l = append(l, api.Place{Local: local, Path: slices.Repeat([]api.Step{deref}, 9)})
	}
	return l
}

// mustTell asks all that is asked of one place.
func (w world) mustTell(t *testing.T, p api.Place) bool {
	t.Helper()
	to, goes, ok := w.plainWay(p)
	if !ok {
		w.mustRefuse(t, p)
		return false
	}
	if !place.May(w.structs, w.locals, p) {
		t.Fatalf("May(%v) is false", p)
	}
	x, e := place.Type(w.structs, w.locals, p)
	if s, f := types.Text(x); s != to || e != api.OK || f != api.OK {
		t.Fatalf("Type(%v): %q, %v; want %q", p, s, e, to)
	}
	if l, e := place.Goes(w.structs, w.locals, p); !slices.Equal(l, goes) || e != api.OK {
		t.Fatalf("Goes(%v): %v, %v; want %v", p, l, e, goes)
	}
	held := len(p.Path)
	for held > 0 && strings.ContainsAny(fmt.Sprint(goes[:held]), "23") {
		held--
	}
	if h, e := place.Held(w.structs, w.locals, p); spelt(h) != spelt(at(p.Local, p.Path[:held]...)) || e != api.OK {
		t.Fatalf("Held(%v): %v, %v; want its first %d steps", p, h, e, held)
	}
	return true
}

// mustRefuse asks that every call that is handed p among these locals answers ErrArg, and nothing beside it.
func (w world) mustRefuse(t *testing.T, p api.Place) {
	t.Helper()
	if place.May(w.structs, w.locals, p) {
		t.Fatalf("May(%.60v)", p)
	}
	if x, e := place.Type(w.structs, w.locals, p); e != api.ErrArg || !reflect.DeepEqual(x, api.Type{}) {
		t.Fatalf("Type(%.60v): %v, %v", p, x, e)
	}
	if l, e := place.Goes(w.structs, w.locals, p); e != api.ErrArg || len(l) != 0 {
		t.Fatalf("Goes(%.60v): %v, %v", p, l, e)
	}
	if h, e := place.Held(w.structs, w.locals, p); e != api.ErrArg || h.Local != 0 || len(h.Path) != 0 {
		t.Fatalf("Held(%.60v): %v, %v", p, h, e)
	}
	for _, d := range depths {
		w.mustRefuseWithin(t, p, p, d)
		w.mustRefuseWithin(t, p, at(0), d)
		w.mustRefuseWithin(t, at(0), p, d)
		w.mustRefuseWithin(t, at(p.Local), p, d)
	}
}

func (w world) mustRefuseWithin(t *testing.T, p, q api.Place, d api.Depth) {
	t.Helper()
	if is, e := place.Within(w.structs, w.locals, p, q, d); is || e != api.ErrArg {
		t.Fatalf("Within(%.60v, %.60v, %d): %v, %v", p, q, d, is, e)
	}
}

// mustRefuseAll asks that no place of a world is taken.
func (w world) mustRefuseAll(t *testing.T, what string) {
	t.Helper()
	t.Run(what, func(t *testing.T) {
		for local := range w.locals {
			w.mustRefuse(t, at(local))
			w.mustRefuse(t, at(local, deref))
			w.mustRefuse(t, at(local, 0))
		}
	})
}

// chance makes places and texts.
type chance struct{ *rand.Rand }

func byChance(seed int64) chance { return chance{rand.New(rand.NewSource(seed))} }

func (c chance) step() api.Step {
	return []api.Step{deref, deref, 0, 1, 2, 3, 7, 8, -2, 10, api.Step(c.Intn(1000)), math.MaxInt, math.MinInt}[c.Intn(13)]
}

// place is one of a world, of up to so many steps, with a step by chance where far is 0.
func (c chance) place(w world, most, far int) api.Place {
	p := at(c.Intn(len(w.locals)))
	for range c.Intn(most + 1) {
		var on []api.Step
		for step := deref; step < api.MaxFields; step++ {
			if _, _, ok := w.plainWay(at(p.Local, append(slices.Clone(p.Path), step)...)); ok {
				on = append(on, step)
			}
		}
		step := c.step()
		if c.Intn(far) != 0 && len(on) > 0 {
			step = on[c.Intn(len(on))]
		}
		p.Path = append(p.Path, step)
	}
	return p
}
