package tree

import "loanword/api"

// firstUnlike answers the first node that is not as its kind asks; where there is none, how many nodes there are.
func firstUnlike(t api.Tree) int {
	for i, n := range t.Nodes {
		if !asItsKindAsks(t, n) {
			return i
		}
	}
	return len(t.Nodes)
}

func asItsKindAsks(t api.Tree, n api.Node) bool {
	if n.At < 0 || !textFits(n) || !numberFits(n) {
		return false
	}
	kinds, ok := kindsOf(t, n.L)
	return ok && childrenFit(n, kinds)
}

func textFits(n api.Node) bool {
	switch n.Kind {
	case api.NField, api.NParam, api.NFn, api.NLife, api.NBound, api.NLet, api.NVar, api.NDot, api.NCall, api.NInit:
		return Name(n.S)
	case api.NStruct, api.NTyName, api.NMake:
		return TypeName(n.S)
	case api.NTyRef:
		return n.S == "" || Name(n.S)
	case api.NBin:
		return isSign(n.S)
	}
	return n.S == ""
}

func isSign(s string) bool {
	switch s {
	case "+", "-", "*", "/", "%", "==", "!=", "<", "<=", ">", ">=", "&&", "||":
		return true
	}
	return false
}

func numberFits(n api.Node) bool {
	switch n.Kind {
	case api.NFn:
		return n.N >= 0 && n.N <= api.MaxLives
	case api.NLet:
		return n.N >= 1 && n.N <= 3
	case api.NTyRef, api.NIf, api.NBool, api.NRef:
		return n.N == 0 || n.N == 1
	case api.NInt:
		return n.N >= 0
	}
	return n.N == 0
}

// kindsOf answers the kinds of these nodes, and whether all of them are there.
func kindsOf(t api.Tree, l []int) ([]api.NodeKind, bool) {
	kinds := make([]api.NodeKind, len(l))
	for i, c := range l {
		if c < 0 || c >= len(t.Nodes) {
			return nil, false
		}
		kinds[i] = t.Nodes[c].Kind
	}
	return kinds, true
}

// childrenFit tells whether children of these kinds are what n asks for; its number fits.
func childrenFit(n api.Node, kinds []api.NodeKind) bool {
	switch n.Kind {
	case api.NFile:
		return allAre(kinds, isItem)
	case api.NStruct:
		return len(kinds) >= 1 && len(kinds) <= api.MaxFields && allAre(kinds, is(api.NField))
	case api.NFn:
		return fnFits(int(n.N), kinds)
	case api.NLife:
		return len(kinds) <= api.MaxLives && allAre(kinds, is(api.NBound))
	case api.NField, api.NParam, api.NTyBox, api.NTyRef:
		return inTurn(kinds, isType)
	case api.NBlock:
		return allAre(kinds, isStatement)
	case api.NLet:
		return letFits(n.N, kinds)
	case api.NIf:
		return ifFits(n.N, kinds)
	case api.NWhile:
		return inTurn(kinds, isExpression, is(api.NBlock))
	case api.NLoop:
		return inTurn(kinds, is(api.NBlock))
	case api.NExpr:
		return inTurn(kinds, is(api.NCall))
	case api.NAssign, api.NBin:
		return inTurn(kinds, isExpression, isExpression)
	case api.NReturn, api.NPrint, api.NDot, api.NDeref, api.NRef, api.NNeg, api.NNot, api.NBox, api.NInit:
		return inTurn(kinds, isExpression)
	case api.NCall:
		return len(kinds) <= api.MaxParams && allAre(kinds, isExpression)
	case api.NMake:
		return len(kinds) >= 1 && len(kinds) <= api.MaxFields && allAre(kinds, is(api.NInit))
	case api.NBound, api.NTyInt, api.NTyBool, api.NTyName, api.NBreak, api.NContinue, api.NInt, api.NBool, api.NVar, api.NRead:
		return len(kinds) == 0
	}
	return false
}

// fnFits: so many lifetimes, then parameters, the answer's type, the block.
func fnFits(lives int, kinds []api.NodeKind) bool {
	params := len(kinds) - lives - 2
	if params < 0 || params > api.MaxParams {
		return false
	}
	return allAre(kinds[:lives], is(api.NLife)) &&
		allAre(kinds[lives:lives+params], is(api.NParam)) &&
		inTurn(kinds[lives+params:], isType, is(api.NBlock))
}

func letFits(n int64, kinds []api.NodeKind) bool {
	switch n {
	case 1:
		return inTurn(kinds, isType)
	case 2:
		return inTurn(kinds, isExpression)
	}
	return inTurn(kinds, isType, isExpression)
}

func ifFits(n int64, kinds []api.NodeKind) bool {
	if n == 0 {
		return inTurn(kinds, isExpression, is(api.NBlock))
	}
	return inTurn(kinds, isExpression, is(api.NBlock), isElse)
}

// inTurn tells whether there are just as many kinds as are asked for, each as it is asked.
func inTurn(kinds []api.NodeKind, asked ...func(api.NodeKind) bool) bool {
	if len(kinds) != len(asked) {
		return false
	}
	for i, ask := range asked {
		if !ask(kinds[i]) {
			return false
		}
	}
	return true
}

func allAre(kinds []api.NodeKind, ask func(api.NodeKind) bool) bool {
	for _, k := range kinds {
		if !ask(k) {
			return false
		}
	}
	return true
}

func is(kind api.NodeKind) func(api.NodeKind) bool {
	return func(k api.NodeKind) bool { return k == kind }
}

func isItem(k api.NodeKind) bool { return k == api.NStruct || k == api.NFn }

func isElse(k api.NodeKind) bool { return k == api.NBlock || k == api.NIf }

func isType(k api.NodeKind) bool { return k >= api.NTyInt && k <= api.NTyName }

func isStatement(k api.NodeKind) bool { return k >= api.NLet && k <= api.NExpr || k == api.NBlock }

func isExpression(k api.NodeKind) bool { return k >= api.NInt && k != api.NInit }
