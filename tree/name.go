package tree

import "loanword/api"

// Name tells whether s is the name of a variable, a field, a function, a lifetime.
func Name(s string) bool {
	return spelt(s, isSmall, isSmall, isRest) && !isKeyword(s)
}

// TypeName tells whether s is the name of a struct.
func TypeName(s string) bool {
	return spelt(s, isGreat, isSmall, isGreat, isRest) && s != "Box"
}

// spelt tells whether s is as long as a name is, begins with a byte of the class first, and has no byte beside those of the others.
func spelt(s string, first func(byte) bool, others ...func(byte) bool) bool {
	if len(s) < 1 || len(s) > api.MaxName || !first(s[0]) {
		return false
	}
	for i := range len(s) {
		if !oneOf(s[i], others) {
			return false
		}
	}
	return true
}

func oneOf(c byte, classes []func(byte) bool) bool {
	for _, class := range classes {
		if class(c) {
			return true
		}
	}
	return false
}

func isSmall(c byte) bool { return c >= 'a' && c <= 'z' }

func isGreat(c byte) bool { return c >= 'A' && c <= 'Z' }

func isRest(c byte) bool { return c >= '0' && c <= '9' || c == '_' }

func isKeyword(s string) bool {
	switch s {
	case "fn", "struct", "let", "if", "else", "loop", "while", "break", "continue", "return",
		"true", "false", "mut", "print", "read", "box", "i64", "bool":
		return true
	}
	return false
}
