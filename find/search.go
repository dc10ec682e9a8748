package find

import (
	"slices"

	"lustrum/api"
	"lustrum/flat"
	"lustrum/plan"
	"lustrum/throw"
	"lustrum/trans"
	"lustrum/unroll"
	"lustrum/word"
)

// What is found.
const (
	wrong = "wrong"
	none  = "none"
	tired = "tired"
)

// search for an instant that is wrong, behind as few others as can be. What it is refused it throws.
type search struct {
	*plan.Plan
	system trans.System
	last   []api.Lit // what holds at an instant that is wrong
	ahead  []api.Lit // what holds at all those ahead of the first one that is
	effort int
}

func newSearch(p flat.Program, c, effort int) *search {
	s := &search{Plan: throw.Must(plan.Of(p)), system: throw.Must(trans.Make(p)), effort: effort}
	s.last, s.ahead = unroll.Wrong(s.system, c)
	return s
}

func (s *search) run(depth int) Found {
	switch {
	case slices.Contains(s.last, 0):
		return Found{Kind: none}
	case s.effort == api.MaxEffort && s.isFew():
		return s.byStates(depth)
	}
	return s.byInstants(depth)
}

// inputs that have such bits.
func (s *search) inputs(bits []bool) []api.Value {
	l := make([]api.Value, len(s.Inputs))
	for i, n := range s.Inputs {
		width := 1
		if s.Parts[n].Kind == api.Int {
			width = api.Bits
		}
		l[i] = throw.Must(word.Value(bits[:width]))
		bits = bits[width:]
	}
	return l
}
