package cnf

import (
	"lustrum/api"
	"lustrum/graph"
)

// partsOf a gate that is no input.
func partsOf(g *graph.Graph, n int) (a, b api.Lit, ok bool) {
	a, b, input, err := g.Parts(n)
	return a, b, !input && err == nil
}

// numbered gates, of those that are needed: how many variables there are, and that of each gate. Gate 0 has none: what it is stands in no clause.
func numbered(needed []bool) (int, []int) {
	last := 0
	vars := make([]int, len(needed))
	for n, is := range needed {
		if is && n > 0 {
			last++
			vars[n] = last
		}
	}
	return last, vars
}

// turned variable, if its literal is.
func turned(n int, x api.Lit) int {
	if x&1 == 1 {
		return -n
	}
	return n
}

// sayGates: each is just what its parts come to.
func sayGates(g *graph.Graph, vars []int, variable func(api.Lit) int, say func(...int)) {
	for n, x := range vars {
		if a, b, ok := partsOf(g, n); x > 0 && ok {
			say(-x, variable(a))
			say(-x, variable(b))
			say(x, -variable(a), -variable(b))
		}
	}
}

func sayRoots(roots []api.Lit, variable func(api.Lit) int, say func(...int)) {
	for _, x := range roots {
		switch x {
		case 0:
			say()
		case 1:
		default:
			say(variable(x))
		}
	}
}
