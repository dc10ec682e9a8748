package flow

import (
	"slices"

	"lustrum/api"
	"lustrum/flat"
	"lustrum/plan"
)

// Code of a program: it makes an instant of a state and of inputs. A state is a bool (1: no instant has been), and a value for each pre and each fby: what its part (of a fby: the second one) had at the last instant; in the order of flows, asserts and checks, in a term from the innermost and the left on. Nothing of a Code changes: many may have it at once.
type Code struct {
	plan *plan.Plan
	does []operator  // of each part that knows nothing of time
	nils map[int]int // by types
}

// Compile a program. It has Run's errors of no instants.
func Compile(p flat.Program, nilBool bool, nilInt int) (*Code, error) {
	x, err := plan.Of(p)
	if err != nil {
		return nil, err
	}
	if !isInt(nilInt) {
		return nil, api.ErrBound
	}
	c := &Code{plan: x, nils: map[int]int{api.Bool: truth(nilBool), api.Int: nilInt}}
	all := operators()
	for _, part := range x.Parts {
		c.does = append(c.does, all[part.Op])
	}
	return c, nil
}

// Start is the state at the beginning.
func (c *Code) Start() []api.Value {
	l := []api.Value{{Kind: api.Bool, N: truth(true)}}
	for _, n := range c.plan.Kept {
		kind := c.plan.Parts[n].Kind
		l = append(l, api.Value{Kind: kind, N: c.nils[kind]})
	}
	return l
}

// IsState tells whether values are as many as those of a state, and of their types.
func (c *Code) IsState(l []api.Value) bool {
	return len(l) > 0 && isOf(l[0], api.Bool) && c.fit(c.plan.Kept, l[1:])
}

// AreInputs tells whether values are as many as the inputs, and of their types.
func (c *Code) AreInputs(l []api.Value) bool { return c.fit(c.plan.Inputs, l) }

// fit tells whether values are as many as these parts, and of their types.
func (c *Code) fit(parts []int, l []api.Value) bool {
	return slices.EqualFunc(parts, l, func(n int, v api.Value) bool { return isOf(v, c.plan.Parts[n].Kind) })
}

// Instant of a state and of inputs: its tick, and the state behind it; a trap leaves the state as it was. ErrShape: it is no state; ErrType: they are not the inputs.
func (c *Code) Instant(state, in []api.Value) (Tick, []api.Value, error) {
	if !c.IsState(state) {
		return Tick{}, nil, api.ErrShape
	}
	if !c.AreInputs(in) {
		return Tick{}, nil, api.ErrType
	}
	t, next := c.instant(state, in)
	return t, next, nil
}

// instant of a state that is one, and of inputs that are.
func (c *Code) instant(state, in []api.Value) (Tick, []api.Value) {
	x := newInstant(c, state)
	x.workAll(in)
	if x.trap {
		return Tick{Trap: true}, slices.Clone(state)
	}
	return x.tick(), x.state()
}
