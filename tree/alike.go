package tree

import "slices"

// alike tells whether two programs are one: a nil list and an empty one are.
func alike(a, b []Node) bool { return slices.EqualFunc(a, b, alikeNodes) }

func alikeNodes(a, b Node) bool {
	return a.Name == b.Name && slices.Equal(a.In, b.In) && slices.Equal(a.Out, b.Out) &&
		slices.Equal(a.Own, b.Own) && slices.EqualFunc(a.L, b.L, alikeEquations)
}

func alikeEquations(a, b Equation) bool {
	return a.Kind == b.Kind && slices.Equal(a.Names, b.Names) && alikeTerms(a.E, b.E)
}

func alikeTerms(a, b Expr) bool {
	return a.Op == b.Op && a.N == b.N && a.S == b.S && slices.EqualFunc(a.L, b.L, alikeTerms)
}
