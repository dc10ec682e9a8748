package slim

import (
	"slices"

	"lustrum/flat"
	"lustrum/tree"
)

// needed flows of a program.
func needed(p flat.Program) []flat.Flow {
	flows := map[string]int{}
	for i, f := range p.L {
		flows[f.Name] = i
	}
	known := make([]bool, len(p.L))
	var need func(e tree.Expr)
	needFlow := func(i int) {
		if !known[i] {
			known[i] = true
			need(p.L[i].E)
		}
	}
	need = func(e tree.Expr) {
		// A name that is none of a flow is an input's: those stay.
		if i, ok := flows[e.S]; ok {
			needFlow(i)
		}
		for _, part := range e.L {
			need(part)
		}
	}
	for i, f := range p.L {
		if slices.Contains(p.Out, f.Name) || divides(f.E) {
			needFlow(i)
		}
	}
	for _, e := range slices.Concat(p.Asserts, p.Checks) {
		need(e)
	}
	var l []flat.Flow
	for i, f := range p.L {
		if known[i] {
			l = append(l, f)
		}
	}
	return l
}
