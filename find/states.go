package find

import (
	"slices"

	"lustrum/api"
	"lustrum/graph"
	"lustrum/plan"
	"lustrum/throw"
)

// Bounds of a program, without ints, of which no search with MaxEffort may tire.
const (
	fewMemories = 6
	fewTerms    = 200
)

// share of an effort that goes into a question of one instant, ahead of all that its inputs may be.
const share = api.MaxEffort / 20

func (s *search) isFew() bool {
	hasInts := slices.ContainsFunc(s.Parts, func(p plan.Part) bool { return p.Kind == api.Int })
	return !hasInts && len(s.Kept) <= fewMemories && len(s.Parts)-len(s.Inputs) <= fewTerms
}

// place is a state, and how it was reached first: behind so many instants, the last of them from which place, by which inputs.
type place struct {
	state    []bool
	instants int
	from     *place
	in       []bool
}

// byStates: where they are few they are gone through, breadth-first, so that no search is of more than one instant.
func (s *search) byStates(depth int) Found {
	reached := []*place{{state: s.system.Init}}
	for i := 0; i < len(reached) && reached[i].instants < depth; i++ {
		if x := s.onward(reached[i], s.last); x != nil {
			return Found{Kind: wrong, Trace: s.way(x)}
		}
		for x := s.toNew(reached[i], reached); x != nil; x = s.toNew(reached[i], reached) {
			reached = append(reached, x)
		}
	}
	return Found{Kind: none}
}

// toNew place, of a state that was not reached as yet.
func (s *search) toNew(from *place, reached []*place) *place {
	known := api.Lit(0)
	for _, p := range reached {
		known = throw.Must(s.system.G.Or(known, s.all(alike(s.system.Next, p.state))))
	}
	return s.onward(from, append(slices.Clone(s.ahead), graph.Not(known)))
}

// onward from a place by an instant at which these literals hold: the place behind it, or nil.
func (s *search) onward(from *place, roots []api.Lit) *place {
	x := &s.system
	in, ok := s.decide(slices.Concat(roots, alike(x.Mem, from.state)))
	if !ok {
		return nil
	}
	state := throw.Must(x.G.Eval(slices.Concat(in, from.state), x.Next))
	return &place{state: state, instants: from.instants + 1, from: from, in: in}
}

// decide by which inputs all these literals can hold, if they can. Where a search tires, all inputs are tried.
func (s *search) decide(roots []api.Lit) ([]bool, bool) {
	g, in := s.system.G, s.system.In
	switch kind, m := solve(g, roots, min(s.effort, share)); kind {
	case yes:
		return m.bits(in), true
	case tired:
		return tryAll(g, roots, in)
	}
	return nil, false
}

// alike: literals that hold where these bits are such.
func alike(l []api.Lit, state []bool) []api.Lit {
	out := slices.Clone(l)
	for i, is := range state {
		if !is {
			out[i] = graph.Not(l[i])
		}
	}
	return out
}

// all of these literals.
func (s *search) all(l []api.Lit) api.Lit {
	x := api.Lit(1)
	for _, y := range l {
		x = throw.Must(s.system.G.And(x, y))
	}
	return x
}

// way to a place: inputs from the beginning on.
func (s *search) way(x *place) [][]api.Value {
	var l [][]api.Value
	for ; x.from != nil; x = x.from {
		l = append(l, s.inputs(x.in))
	}
	slices.Reverse(l)
	return l
}
