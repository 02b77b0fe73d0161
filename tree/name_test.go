package tree_test

import (
	"strings"
	"testing"

	"loanword/tree"
)

func mustName(t *testing.T, s string, name, typeName bool) {
	t.Helper()
	if got := tree.Name(s); got != name {
		t.Errorf("Name(%q): %v", s, got)
	}
	if got := tree.TypeName(s); got != typeName {
		t.Errorf("TypeName(%q): %v", s, got)
	}
}

// P3.4: the chapter's examples, keywords and what is nearly one.
func TestNames(t *testing.T) {
	for _, s := range []string{"x1", "x", "z9_", "lets", "le", "box_", "i6", "i640", "boolean", "f_n", "x__"} {
		mustName(t, s, true, false)
	}
	for _, s := range []string{"Pair", "P", "Z9_a", "Bo", "Boxx", "BOX", "BoX", "Fn", "I64", "Let"} {
		mustName(t, s, false, true)
	}
	for _, s := range append(keywords, "Box", "", "_", "_x", "1", "1x", "xY", "x-y", "x ", " x", "X ", "x\n", "X\x00", "é", "xé", "Xé", "x\xff", "'a", "İ") {
		mustName(t, s, false, false)
	}
	if len(keywords) != 18 {
		t.Errorf("%d keywords", len(keywords))
	}
}

// P3.4: how long a name may be.
func TestNameLength(t *testing.T) {
	mustName(t, strings.Repeat("a", 31), true, false)
	mustName(t, strings.Repeat("a", 32), true, false)
	mustName(t, strings.Repeat("a", 33), false, false)
	mustName(t, strings.Repeat("A", 32), false, true)
	mustName(t, strings.Repeat("A", 33), false, false)
	mustName(t, strings.Repeat("é", 16), false, false)
	mustName(t, "x"+strings.Repeat("_", 1<<20), false, false)
}

// P3.4: all texts of one and of two bytes, and each byte within a longer one.
func TestNameBytes(t *testing.T) {
	try := func(s string) {
		t.Helper()
		mustName(t, s, fits(aName, s) && !isReserved(s), fits(aTypeName, s) && !isReserved(s))
	}
	for a := range 256 {
		try(string([]byte{byte(a)}))
		try("ab" + string([]byte{byte(a)}) + "c")
		try("Ab" + string([]byte{byte(a)}) + "c")
		for b := range 256 {
			try(string([]byte{byte(a), byte(b)}))
		}
	}
}
