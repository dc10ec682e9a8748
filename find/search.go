package find

import (
	"slices"

	"lustrum/api"
	"lustrum/cnf"
	"lustrum/flat"
	"lustrum/graph"
	"lustrum/plan"
	"lustrum/sat"
	"lustrum/throw"
	"lustrum/trans"
	"lustrum/word"
)

// trap in place of a check's number.
const trap = -1

// What is found, and what is answered of clauses.
const (
	wrong = "wrong"
	none  = "none"
	tired = "tired"
	yes   = "yes"
)

// search for an instant that is wrong, behind as few others as can be. What it is refused it throws.
type search struct {
	*plan.Plan
	system trans.System
	last   []api.Lit // what holds at an instant that is wrong
	ahead  []api.Lit // what holds at all those ahead of the first one that is
	effort int
}

func newSearch(p flat.Program, c, effort int) *search {
	s := &search{Plan: throw.Must(plan.Of(p)), system: throw.Must(trans.Make(p)), effort: effort}
	goesOn := []api.Lit{graph.Not(s.system.Trap), s.system.Assert}
	if c == trap {
		s.last, s.ahead = []api.Lit{s.system.Trap}, goesOn
		return s
	}
	holds := s.system.Checks[c]
	s.last = append(slices.Clone(goesOn), graph.Not(holds))
	s.ahead = append(goesOn, holds)
	return s
}

func (s *search) run(depth int) Found {
	switch {
	case slices.Contains(s.last, 0):
		return Found{Kind: none}
	case s.effort == api.MaxEffort && s.isFew():
		return s.byStates(depth)
	}
	return s.byInstants(depth)
}

// solve: can all these literals of a graph hold? If so, by which values?
func solve(g *graph.Graph, roots []api.Lit, effort int) (kind string, m model) {
	f, vars, err := cnf.Of(g, roots)
	throw.If(err)
	a := throw.Must(sat.Solve(f, effort))
	return a.Kind, model{vars, a.Model}
}

// model of a graph: values with which what was asked for holds.
type model struct {
	vars   []int // of each gate
	values []bool
}

// bits that literals have, none of them turned. What nothing hangs on may be anything, and is false.
func (m model) bits(l []api.Lit) []bool {
	bits := make([]bool, len(l))
	for i, x := range l {
		n := m.vars[x/2]
		bits[i] = n > 0 && m.values[n-1]
	}
	return bits
}

// inputs that have such bits.
func (s *search) inputs(bits []bool) []api.Value {
	l := make([]api.Value, len(s.Inputs))
	for i, n := range s.Inputs {
		width := 1
		if s.Parts[n].Kind == api.Int {
			width = api.Bits
		}
		l[i] = throw.Must(word.Value(bits[:width]))
		bits = bits[width:]
	}
	return l
}
