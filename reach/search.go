package reach

import (
	"slices"

	"lustrum/api"
	"lustrum/flow"
)

// What goes wrong at an instant, where it is no check.
const (
	trap    = -1
	nothing = -2
)

// search through the states of a program.
type search struct {
	code    *flow.Code
	choices [][]api.Value
	most    int
	numbers map[string]int // of states that were reached, by their keys
	reached []place        // these states, in the order in which they were
}

// place is a state, and how it was come by first: from which state, by which of the choices. The beginning is number 0, which no way leads to.
type place struct {
	state    []api.Value
	from, by int
}

func newSearch(c *flow.Code, choices [][]api.Value, most int) *search {
	start := c.Start()
	return &search{
		code:    c,
		choices: choices,
		most:    most,
		numbers: map[string]int{key(start): 0},
		reached: []place{{state: start}},
	}
}

// key of a state: a byte for each value, since no two ints, and no two bools, have the same one, and states have the same types.
func key(state []api.Value) string {
	b := make([]byte, len(state))
	for i, v := range state {
		b[i] = byte(v.N)
	}
	return string(b)
}

// run from the beginning on. There are more states to go on from as they are reached.
func (s *search) run() (Told, error) {
	for from := 0; from < len(s.reached); from++ {
		for by, in := range s.choices {
			t, next, err := s.code.Instant(s.reached[from].state, in)
			if err != nil {
				return Told{}, err
			}
			to := place{state: next, from: from, by: by}
			if check := wrong(t); check != nothing {
				return Told{States: len(s.reached), Trace: s.trace(to), Check: check}, nil
			}
			if t.Assert && !s.reach(to) {
				return Told{}, api.ErrBound
			}
		}
	}
	return Told{States: len(s.reached), Check: nothing}, nil
}

// wrong tells what goes wrong at an instant: the number of a check, or what stands for it.
func wrong(t flow.Tick) int {
	if t.Trap {
		return trap
	}
	if n := slices.Index(t.Checks, false); t.Assert && n >= 0 {
		return n
	}
	return nothing
}

// reach a state. False: it would be one too many.
func (s *search) reach(to place) bool {
	k := key(to.state)
	if _, ok := s.numbers[k]; ok {
		return true
	}
	if len(s.reached) == s.most {
		return false
	}
	s.numbers[k] = len(s.reached)
	s.reached = append(s.reached, to)
	return true
}

// trace of a place: the inputs of the way there. Inputs that are there twice are copied twice.
func (s *search) trace(to place) [][]api.Value {
	l := [][]api.Value{slices.Clone(s.choices[to.by])}
	for n := to.from; n > 0; n = s.reached[n].from {
		l = append(l, slices.Clone(s.choices[s.reached[n].by]))
	}
	slices.Reverse(l)
	return l
}
