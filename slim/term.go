package slim

import (
	"slices"

	"lustrum/flat"
	"lustrum/tree"
)

// rewritten program: of its flows those that stay, and each term made anew, one by one in the order in which they stand.
func rewritten(p flat.Program, stay []flat.Flow, anew func(tree.Expr) tree.Expr) flat.Program {
	x := flat.Program{In: slices.Clone(p.In), Out: slices.Clone(p.Out)}
	for _, f := range stay {
		x.L = append(x.L, flat.Flow{Name: f.Name, Kind: f.Kind, E: anew(f.E)})
	}
	x.Asserts = each(p.Asserts, anew)
	x.Checks = each(p.Checks, anew)
	return x
}

func each(l []tree.Expr, anew func(tree.Expr) tree.Expr) []tree.Expr {
	var made []tree.Expr
	for _, e := range l {
		made = append(made, anew(e))
	}
	return made
}

// like a term, of parts that are made anew.
func like(e tree.Expr, anew func(tree.Expr) tree.Expr) tree.Expr {
	return tree.Expr{Op: e.Op, N: e.N, S: e.S, L: each(e.L, anew)}
}

// copied, since what is answered shares no memory with what was handed in.
func copied(e tree.Expr) tree.Expr { return like(e, copied) }

// divides tells whether a term, or some part of it, may trap.
func divides(e tree.Expr) bool {
	return e.Op == "/" || e.Op == "mod" || slices.ContainsFunc(e.L, divides)
}
