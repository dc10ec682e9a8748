package flat

import (
	"slices"

	"lustrum/api"
	"lustrum/tree"
)

// kindsOf the names of a program, if each is there once, and of a type that there is.
func kindsOf(p Program) (map[string]int, bool) {
	vars := slices.Clone(p.In)
	for _, f := range p.L {
		vars = append(vars, tree.Var{Name: f.Name, Kind: f.Kind})
	}
	kinds := map[string]int{}
	for _, v := range vars {
		_, twice := kinds[v.Name]
		if twice || v.Name == "" || v.Kind != api.Bool && v.Kind != api.Int {
			return nil, false
		}
		kinds[v.Name] = v.Kind
	}
	return kinds, true
}

// outsAreFlows, each of them once.
func outsAreFlows(p Program) bool {
	times := map[string]int{}
	for _, f := range p.L {
		times[f.Name] = 0
	}
	for _, name := range p.Out {
		n, ok := times[name]
		if !ok || n > 0 {
			return false
		}
		times[name]++
	}
	return true
}

// termsOf a program, and the types that they should have.
func termsOf(p Program) (terms []tree.Expr, kinds []int) {
	for _, f := range p.L {
		terms = append(terms, f.E)
		kinds = append(kinds, f.Kind)
	}
	for _, e := range slices.Concat(p.Asserts, p.Checks) {
		terms = append(terms, e)
		kinds = append(kinds, api.Bool)
	}
	return terms, kinds
}

// areFormed goes through each place in memory once, and not by calls in each other: terms that share their parts may be without end, and they may be of any depth, as long as nobody has asked for the bounds.
func areFormed(terms []tree.Expr, kinds map[string]int) bool {
	work := slices.Clone(terms)
	seen := map[*tree.Expr]int{}
	for len(work) > 0 {
		e := work[len(work)-1]
		work = work[:len(work)-1]
		if !isFormed(e, kinds) {
			return false
		}
		for i := range e.L {
			place := &e.L[i]
			if seen[place]++; seen[place] == 1 {
				work = append(work, *place)
			}
		}
	}
	return true
}

// isFormed tells whether a term, what is in its parts aside, may stand in a flat program.
func isFormed(e tree.Expr, kinds map[string]int) bool {
	if e.Op == "name" && kinds[e.S] == 0 {
		return false
	}
	return e.Op != "call" && tree.Formed(e)
}
