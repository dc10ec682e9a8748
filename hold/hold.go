// Package hold: can literals of a graph hold, all of them at once, and by which values?
package hold

import (
	"slices"

	"lustrum/api"
	"lustrum/cnf"
	"lustrum/graph"
	"lustrum/sat"
	"lustrum/throw"
)

// Kinds of answers.
const (
	Yes   = "yes"
	No    = "no"
	Tired = "tired"
)

// Answer of a search: if it is Yes, it has values with which all literals hold.
type Answer struct {
	Kind   string
	vars   []int // of each gate
	values []bool
}

// Search whether all roots can hold. ErrShape: one of them is none of the graph's; ErrBound: effort is not from 0 to MaxEffort, or they need more clauses than there may be.
func Search(g *graph.Graph, roots []api.Lit, effort int) (Answer, error) {
	f, vars, err := cnf.Of(g, roots)
	if err != nil {
		return Answer{}, err
	}
	a, err := sat.Solve(f, effort)
	if err != nil {
		return Answer{}, err
	}
	return Answer{a.Kind, vars, a.Model}, nil
}

// Bits that literals of gates that are not turned have. What nothing hangs on may be anything, and is false.
func (a Answer) Bits(l []api.Lit) []bool {
	bits := make([]bool, len(l))
	for i, x := range l {
		n := a.vars[x/2]
		bits[i] = n > 0 && a.values[n-1]
	}
	return bits
}

// waysOf a conflict: trying so many ways of the inputs takes about as long.
const waysOf = 1 << 13

// Decide whether all roots can hold, and if so, which bits these inputs have then. It is never tired: where a search is, be it of what is left of its effort or of what trying takes, all that inputs may be is tried. Errors as Search; ErrShape: one of the inputs is none of the graph's.
func Decide(g *graph.Graph, roots, in []api.Lit, effort int) (bits []bool, ok bool, err error) {
	if _, err := g.Needs(in); err != nil {
		return nil, false, err
	}
	needed, err := g.Needs(roots)
	if err != nil {
		return nil, false, err
	}
	w := newWays(g, roots, needed)
	a, err := Search(g, roots, min(effort, w.count()/waysOf))
	switch {
	case err != nil || a.Kind == No:
		return nil, false, err
	case a.Kind == Tired:
		bits, ok = w.tryAll(in)
		return bits, ok, nil
	}
	return a.Bits(in), true, nil
}

// Alike: literals that all hold just where these have such bits.
func Alike(l []api.Lit, bits []bool) []api.Lit {
	out := slices.Clone(l)
	for i, is := range bits {
		if !is {
			out[i] = graph.Not(l[i])
		}
	}
	return out
}

// All of these literals. Errors as those of And.
func All(g *graph.Graph, l []api.Lit) (api.Lit, error) {
	return throw.Answer(func() api.Lit {
		x := api.Lit(1)
		for _, y := range l {
			x = throw.Must(g.And(x, y))
		}
		return x
	})
}
