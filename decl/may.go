package decl

import (
	"slices"

	"loanword/api"
	"loanword/tree"
	"loanword/types"
)

// May tells whether d may be what Of answers of a file, whatever its Nodes are.
func May(d api.Decls) bool {
	return structsMay(d.Structs) && sigsMay(d) && hasMain(d)
}

func structsMay(structs []api.Struct) bool {
	if _, e := types.Structs(structs); e != api.OK {
		return false
	}
	for _, s := range structs {
		if !areNames(fieldNames(s.Fields), tree.Name) {
			return false
		}
	}
	return areNames(structNames(structs), tree.TypeName)
}

func sigsMay(d api.Decls) bool {
	if len(d.Sigs) > api.MaxItems {
		return false
	}
	var names []string
	for _, s := range d.Sigs {
		if !sigMay(d.Structs, s) {
			return false
		}
		names = append(names, s.Name)
	}
	return areNames(names, tree.Name)
}

// sigMay asks for the counts first: all else is asked of short lists, and of lifetimes that are there.
func sigMay(structs []api.Struct, s api.Sig) bool {
	if len(s.Params) > api.MaxParams || len(s.Lives) > s.Count || s.Count > api.MaxLives {
		return false
	}
	if !areNames(s.Lives, tree.Name) || !areNames(fieldNames(s.Params), tree.Name) {
		return false
	}
	for _, t := range typesOf(s) {
		if !types.May(structs, t) || !areLives(s, types.Regions(t)...) {
			return false
		}
	}
	for _, o := range s.Outlives {
		if !areLives(s, o.Long, o.Short) {
			return false
		}
	}
	// Sorted, closed, each once, with all that is implied: that is what comes of it when it is closed once more.
	return slices.Equal(s.Outlives, closed(s, s.Outlives))
}

func hasMain(d api.Decls) bool {
	n, ok := Sig(d, "main")
	return ok && isMain(d.Sigs[n])
}

// areLives tells whether all of these are lifetimes of s.
func areLives(s api.Sig, lives ...int) bool {
	for _, life := range lives {
		if life < 0 || life >= s.Count {
			return false
		}
	}
	return true
}

// areNames tells whether all of these are names of their kind, and none stands there twice.
func areNames(names []string, ask func(string) bool) bool {
	for _, name := range names {
		if !ask(name) {
			return false
		}
	}
	return len(numbers(names)) == len(names)
}

func structNames(structs []api.Struct) []string {
	var l []string
	for _, s := range structs {
		l = append(l, s.Name)
	}
	return l
}

func fieldNames(fields []api.Field) []string {
	var l []string
	for _, f := range fields {
		l = append(l, f.Name)
	}
	return l
}
