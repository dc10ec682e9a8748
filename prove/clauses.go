package prove

import (
	"lustrum/api"
	"lustrum/cnf"
	"lustrum/graph"
	"lustrum/throw"
)

// clauses of gates, and others beside them. What is beyond the bounds of a formula it throws.
type clauses struct {
	cnf.Formula
	vars []int // of each gate
}

// clausesOf roots, with variables for more literals.
func clausesOf(g *graph.Graph, roots, more []api.Lit) *clauses {
	f, vars, err := cnf.With(g, roots, more)
	throw.If(err)
	return &clauses{f, vars}
}

func (f *clauses) say(c ...int) { f.L = append(f.L, c) }

// number of a literal that is neither false nor true at sight.
func (f *clauses) number(x api.Lit) int {
	if x&1 == 1 {
		return -f.vars[x/2]
	}
	return f.vars[x/2]
}

// begin with a state whose first bit is false, or with the beginning. Each of its bits may be either.
func (f *clauses) begin(state []api.Lit, init []bool) {
	first := f.number(state[0])
	for i, is := range init[1:] {
		n := f.number(state[1+i])
		if !is {
			n = -n
		}
		f.say(-first, n)
	}
}

// unlike states: one of their bits is.
func (f *clauses) unlike(a, b []api.Lit) {
	c := api.Clause{}
	for i, x := range a {
		y := b[i]
		switch {
		case x == graph.Not(y):
			return
		case x == y:
		case x <= 1:
			c = append(c, f.number(y^x))
		case y <= 1:
			c = append(c, f.number(x^y))
		default:
			c = append(c, f.differ(f.number(x), f.number(y)))
		}
	}
	f.L = append(f.L, c)
	if f.Vars > api.MaxVars || len(f.L) > api.MaxClauses {
		throw.If(api.ErrBound)
	}
}

// differ: a new variable, which holds only where these two are unlike.
func (f *clauses) differ(x, y int) int {
	f.Vars++
	f.say(-f.Vars, x, y)
	f.say(-f.Vars, -x, -y)
	return f.Vars
}
