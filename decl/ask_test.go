package decl_test

import (
	"testing"

	"loanword/api"
	"loanword/decl"
)

// P7.3: all that is said of any two numbers, of signatures that Of answers and of others.
func TestOutlives(t *testing.T) {
	well := of(t, "fn f<'a, 'b: 'a>(x: &'a mut &'b i64, y: & &i64) -> &'b i64 { return *x; }"+end).Sigs
	sigs := append(well,
		api.Sig{},
		api.Sig{Count: 1},
		api.Sig{Count: 3, Outlives: []api.Outlives{{Long: 2, Short: 1}, {Long: 1, Short: 0}}}, // not closed: nothing follows
		api.Sig{Count: 3, Outlives: []api.Outlives{{Long: 3, Short: 1}, {Long: 1, Short: 3}, {Long: -1, Short: 0}, {Long: 0, Short: -1}, {Long: 2, Short: 2}}},
		api.Sig{Count: -2, Outlives: []api.Outlives{{Long: 0, Short: 1}, {Long: -3, Short: -3}}},
		api.Sig{Count: 1 << 40, Outlives: []api.Outlives{{Long: 1 << 39, Short: 7}}},
		api.Sig{Count: 5, Lives: []string{"a"}, Outlives: []api.Outlives{{Long: 4, Short: 0}, {Long: 4, Short: 0}, {Long: 0, Short: 3}}},
	)
	numbers := []int{-1 << 63, -3, -2, -1, 0, 1, 2, 3, 4, 5, 6, 7, 1 << 39, 1<<40 - 1, 1 << 40, 1<<63 - 1}
	for _, s := range sigs {
		for _, long := range numbers {
			for _, short := range numbers {
				said := long == short
				for _, o := range s.Outlives {
					if o.Long == long && o.Short == short {
						said = true
					}
				}
				want := said && 0 <= long && long < s.Count && 0 <= short && short < s.Count
				if decl.Outlives(s, long, short) != want {
					t.Errorf("Outlives(%v, %d, %d): %v", s, long, short, !want)
				}
			}
		}
	}
	f := well[0]
	if !decl.Outlives(f, 1, 0) || decl.Outlives(f, 0, 1) || !decl.Outlives(f, 3, 2) || decl.Outlives(f, 2, 0) || !decl.Outlives(f, 2, 2) || decl.Outlives(f, 4, 4) {
		t.Errorf("%v", f)
	}
}

// P7.3: the first one of a name, of declarations that may be and of others.
func TestNames(t *testing.T) {
	well := of(t, "struct S { a: i64, b: bool } fn g() -> i64 { } struct T { b: Box<S>, c: S }"+end)
	odd := api.Decls{
		Structs: []api.Struct{{Name: "x"}, {Name: "S", Fields: []api.Field{{Name: "b"}, {Name: "a"}, {Name: "b"}, {}}}, {Name: "S"}, {}, {Name: "x"}},
		Sigs:    []api.Sig{{Name: "S"}, {Name: "g"}, {Name: "f"}, {Name: "g"}, {}},
	}
	all := []string{"", "S", "T", "U", "g", "f", "main", "a", "b", "c", "x", "s", "S ", "mai"}
	for _, d := range []api.Decls{{}, well, odd, {Structs: []api.Struct{}, Sigs: []api.Sig{}}} {
		for _, name := range all {
			var structs, sigs []string
			for _, s := range d.Structs {
				structs = append(structs, s.Name)
			}
			for _, s := range d.Sigs {
				sigs = append(sigs, s.Name)
			}
			n, ok := decl.Struct(d, name)
			mustFind(t, "Struct", structs, name, n, ok)
			n, ok = decl.Sig(d, name)
			mustFind(t, "Sig", sigs, name, n, ok)
			for _, s := range []int{-1 << 63, -1, 0, 1, 2, 3, 4, 5, 1<<63 - 1} {
				var fields []string
				if s >= 0 && s < len(d.Structs) {
					for _, f := range d.Structs[s].Fields {
						fields = append(fields, f.Name)
					}
				}
				n, ok = decl.Field(d, s, name)
				mustFind(t, "Field", fields, name, n, ok)
			}
		}
	}
	if n, ok := decl.Struct(well, "T"); n != 1 || !ok {
		t.Errorf("T: %d, %v", n, ok)
	}
	if n, ok := decl.Sig(well, "main"); n != 1 || !ok {
		t.Errorf("main: %d, %v", n, ok)
	}
	if n, ok := decl.Field(well, 1, "c"); n != 1 || !ok {
		t.Errorf("c: %d, %v", n, ok)
	}
	if n, ok := decl.Field(well, 0, "c"); n != 0 || ok {
		t.Errorf("c of S: %d, %v", n, ok)
	}
	if n, ok := decl.Field(odd, 1, "b"); n != 0 || !ok {
		t.Errorf("b: %d, %v", n, ok)
	}
}

// mustFind asks for the first place of a name in a list.
func mustFind(t *testing.T, what string, l []string, name string, n int, ok bool) {
	t.Helper()
	for i, s := range l {
		if s == name {
			if n != i || !ok {
				t.Errorf("%s %q of %q: %d, %v", what, name, l, n, ok)
			}
			return
		}
	}
	if n != 0 || ok {
		t.Errorf("%s %q of %q: %d, %v", what, name, l, n, ok)
	}
}
