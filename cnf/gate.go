package cnf

import (
	"lustrum/api"
	"lustrum/graph"
)

// needed gates, by their numbers. Parts are of lesser numbers than their gate, so that one way down comes to all of them.
func needed(g *graph.Graph, roots []api.Lit) []bool {
	l := make([]bool, g.Gates())
	need := func(x api.Lit) { l[x/2] = true }
	for _, x := range roots {
		need(x)
	}
	for n := len(l) - 1; n > 0; n-- {
		if a, b, ok := partsOf(g, n); l[n] && ok {
			need(a)
			need(b)
		}
	}
	l[0] = false // what it is stands in no clause
	return l
}

// partsOf a gate that is no input.
func partsOf(g *graph.Graph, n int) (a, b api.Lit, ok bool) {
	a, b, input, err := g.Parts(n)
	return a, b, !input && err == nil
}

// numbered gates: how many variables there are, and that of each gate.
func numbered(needed []bool) (int, []int) {
	last := 0
	vars := make([]int, len(needed))
	for n, is := range needed {
		if is {
			last++
			vars[n] = last
		}
	}
	return last, vars
}

// turned variable, if its literal is.
func turned(n int, x api.Lit) int {
	if x&1 == 1 {
		return -n
	}
	return n
}

// sayGates: each is just what its parts come to.
func sayGates(g *graph.Graph, vars []int, variable func(api.Lit) int, say func(...int)) {
	for n, x := range vars {
		if a, b, ok := partsOf(g, n); x > 0 && ok {
			say(-x, variable(a))
			say(-x, variable(b))
			say(x, -variable(a), -variable(b))
		}
	}
}

func sayRoots(roots []api.Lit, variable func(api.Lit) int, say func(...int)) {
	for _, x := range roots {
		switch x {
		case 0:
			say()
		case 1:
		default:
			say(variable(x))
		}
	}
}
