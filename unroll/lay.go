package unroll

import (
	"lustrum/api"
	"lustrum/throw"
	"lustrum/trans"
)

// need of the literals that are asked for.
type need struct {
	bits  []bool // of a state: they hang on these, at their own instant or at a later one
	now   []bool // gates that they hang on at their own instant
	later []bool // gates that those bits hang on at the instant ahead
}

func needOf(s trans.System, asked []api.Lit) need {
	x := need{bits: make([]bool, len(s.Mem)), now: throw.Must(s.G.Needs(asked))}
	var all []api.Lit
	for hangs := asked; len(hangs) > 0; {
		gates := throw.Must(s.G.Needs(hangs))
		hangs = nil
		for i, m := range s.Mem {
			if gates[m/2] && !x.bits[i] {
				x.bits[i] = true
				hangs = append(hangs, s.Next[i])
			}
		}
		all = append(all, hangs...)
	}
	x.later = throw.Must(s.G.Needs(all))
	return x
}

// behind the last instant: the state; where none has been, that of the beginning, or any.
func (r *Roll) behind() []api.Lit {
	begun := len(r.States) > 0
	if begun {
		r.lay(r.later)
	}
	state := make([]api.Lit, len(r.bits))
	for i, is := range r.bits {
		switch {
		case !is:
		case begun:
			state[i] = r.is(r.system.Next[i])
		case r.open:
			state[i] = throw.Must(r.Graph.Input())
		case r.system.Init[i]:
			state[i] = 1
		}
	}
	return state
}

// inputs of the instant, also those that only the state behind it needs.
func (r *Roll) inputs() []api.Lit {
	l := make([]api.Lit, len(r.system.In))
	for i, x := range r.system.In {
		if r.now[x/2] || r.later[x/2] {
			l[i] = throw.Must(r.Graph.Input())
			r.gates[x/2] = l[i]
		}
	}
	return l
}

// lay out gates of the last instant, each behind its parts.
func (r *Roll) lay(which []bool) {
	for n, is := range which {
		a, b, input, err := r.system.G.Parts(n)
		if is && !input && err == nil {
			r.gates[n] = throw.Must(r.Graph.And(r.is(a), r.is(b)))
		}
	}
}

// is: what a literal of the system is at the last instant.
func (r *Roll) is(x api.Lit) api.Lit { return r.gates[x/2] ^ x&1 }

func (r *Roll) told(l []api.Lit) []api.Lit {
	out := make([]api.Lit, len(l))
	for i, x := range l {
		out[i] = r.is(x)
	}
	return out
}
