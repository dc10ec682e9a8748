package find

import (
	"slices"

	"lustrum/api"
	"lustrum/graph"
	"lustrum/hold"
	"lustrum/throw"
)

// Bounds of a program, without ints, of which no search with MaxEffort may tire.
const (
	fewMemories = 6
	fewTerms    = 200
)

// share of an effort that goes into a question of one instant, ahead of all that its inputs may be.
const share = api.MaxEffort / 20

func (s *search) isFew() bool {
	return !s.HasInts() && len(s.Kept) <= fewMemories && len(s.Parts)-len(s.Inputs) <= fewTerms
}

// place is a state, and how it was reached first: behind so many instants, the last of them from which place, by which inputs.
type place struct {
	state    []bool
	instants int
	from     *place
	in       []bool
}

// byStates: where they are few they are gone through, breadth-first, so that no search is of more than one instant.
func (s *search) byStates(depth int) Found {
	reached := []*place{{state: s.system.Init}}
	for i := 0; i < len(reached) && reached[i].instants < depth; i++ {
		if x := s.onward(reached[i], s.last); x != nil {
			return Found{Kind: wrong, Trace: s.way(x)}
		}
		for x := s.toNew(reached[i], reached); x != nil; x = s.toNew(reached[i], reached) {
			reached = append(reached, x)
		}
	}
	return Found{Kind: none}
}

// toNew place, of a state that was not reached as yet.
func (s *search) toNew(from *place, reached []*place) *place {
	known := api.Lit(0)
	for _, p := range reached {
		there := throw.Must(hold.All(s.system.G, hold.Alike(s.system.Next, p.state)))
		known = throw.Must(s.system.G.Or(known, there))
	}
	return s.onward(from, append(slices.Clone(s.ahead), graph.Not(known)))
}

// onward from a place by an instant at which these literals hold: the place behind it, or nil.
func (s *search) onward(from *place, roots []api.Lit) *place {
	x := &s.system
	in, ok, err := hold.Decide(x.G, slices.Concat(roots, hold.Alike(x.Mem, from.state)), x.In, min(s.effort, share))
	throw.If(err)
	if !ok {
		return nil
	}
	state := throw.Must(x.G.Eval(slices.Concat(in, from.state), x.Next))
	return &place{state: state, instants: from.instants + 1, from: from, in: in}
}

// way to a place: inputs from the beginning on.
func (s *search) way(x *place) [][]api.Value {
	var l [][]api.Value
	for ; x.from != nil; x = x.from {
		l = append(l, s.inputs(x.in))
	}
	slices.Reverse(l)
	return l
}
