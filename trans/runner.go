package trans

import (
	"slices"

	"lustrum/api"
	"lustrum/flat"
	"lustrum/flow"
	"lustrum/order"
	"lustrum/throw"
	"lustrum/tree"
	"lustrum/word"
)

// bitsOfAll inputs, instant by instant. It has flow.Run's errors.
func bitsOfAll(p flat.Program, in [][]api.Value) ([][]bool, error) {
	if err := order.Check(p); err != nil {
		return nil, err
	}
	if len(in) > api.MaxTicks {
		return nil, api.ErrBound
	}
	l := make([][]bool, len(in))
	for at, now := range in {
		bits, err := bitsOf(p.In, now)
		if err != nil {
			return nil, &api.Fault{At: at, Err: err}
		}
		l[at] = bits
	}
	return l, nil
}

// bitsOf an instant's inputs. ErrType: these values cannot be they.
func bitsOf(inputs []tree.Var, l []api.Value) ([]bool, error) {
	if len(l) != len(inputs) {
		return nil, api.ErrType
	}
	var all []bool
	for i, v := range l {
		bits, err := word.Bits(v)
		if err != nil || v.Kind != inputs[i].Kind {
			return nil, api.ErrType
		}
		all = append(all, bits...)
	}
	return all, nil
}

func kindsOfOut(p flat.Program) []int {
	kinds := map[string]int{}
	for _, f := range p.L {
		kinds[f.Name] = f.Kind
	}
	l := make([]int, len(p.Out))
	for i, name := range p.Out {
		l[i] = kinds[name]
	}
	return l
}

// runner of a system.
type runner struct {
	System
	kinds []int // of outputs
}

func (x *runner) run(in [][]bool) []flow.Tick {
	var l []flow.Tick
	state := x.Init
	for _, now := range in {
		t, next := x.instant(now, state)
		l = append(l, t)
		if t.Trap {
			break
		}
		state = next
	}
	return l
}

// instant by bits of inputs and of a state: its tick, and the bits of the state behind it.
func (x *runner) instant(in, state []bool) (flow.Tick, []bool) {
	ask := slices.Concat([]api.Lit{x.Trap, x.Assert}, x.Checks, x.Out, x.Next)
	l := throw.Must(x.G.Eval(slices.Concat(in, state), ask))
	take := func(n int) []bool {
		taken := slices.Clone(l[:n])
		l = l[n:]
		return taken
	}
	if trap := take(1)[0]; trap {
		return flow.Tick{Trap: true}, nil
	}
	t := flow.Tick{Assert: take(1)[0], Checks: take(len(x.Checks))}
	for _, kind := range x.kinds {
		t.Out = append(t.Out, throw.Must(word.Value(take(width(kind)))))
	}
	return t, take(len(x.Next))
}
