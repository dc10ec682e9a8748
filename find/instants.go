package find

import (
	"slices"

	"lustrum/api"
	"lustrum/hold"
	"lustrum/throw"
	"lustrum/unroll"
)

// byInstants: they are laid one behind another, and each time it is asked whether the last one can be wrong, though all others were not.
func (s *search) byInstants(depth int) Found {
	r := throw.Must(unroll.New(s.system, slices.Concat(s.last, s.ahead)))
	var path []api.Lit
	for n := 0; n < depth && !slices.Contains(path, 0); n++ {
		l := throw.Must(r.Add())
		if r.Again() {
			break
		}
		last, ahead := l[:len(s.last)], l[len(s.last):]
		switch a := throw.Must(hold.Search(r.Graph, slices.Concat(path, last), s.effort)); a.Kind {
		case hold.Yes:
			return Found{Kind: wrong, Trace: s.trace(r, a)}
		case hold.Tired:
			return Found{Kind: tired}
		}
		path = append(path, ahead...)
	}
	return Found{Kind: none}
}

func (s *search) trace(r *unroll.Roll, a hold.Answer) [][]api.Value {
	var l [][]api.Value
	for _, in := range r.Ins {
		l = append(l, s.inputs(a.Bits(in)))
	}
	return l
}
