package trans

import (
	"bytes"
	"math/rand"
	"slices"
	"testing"

	"lustrum/api"
	"lustrum/flat"
	"lustrum/flow"
	"lustrum/sample"
	"lustrum/word"
)

// seen counts what gates have shown.
type seen struct {
	instants, first, traps, firstTraps, asserts, checks, memories int
}

func (s *seen) look(state []api.Value, k flow.Tick) {
	s.instants++
	s.first += state[0].N
	s.memories += len(state) - 1
	switch {
	case k.Trap:
		s.traps++
		s.firstTraps += state[0].N
	case !k.Assert:
		s.asserts++
	}
	for _, holds := range k.Checks {
		if !holds {
			s.checks++
		}
	}
}

func kindsIn(l []api.Value) []int {
	var kinds []int
	for _, v := range l {
		kinds = append(kinds, v.Kind)
	}
	return kinds
}

// anywhere: gates agree with the machine at states and inputs of choice, whether they can be reached or not.
func anywhere(t testing.TB, s *seen, p flat.Program, choices []byte) {
	t.Helper()
	x := newPair(t, p)
	kinds := kindsIn(x.m.State())
	for len(choices) > 0 {
		n := min(len(choices), 20)
		state := sample.Values(choices[:n], kinds)
		in := sample.Inputs(choices[n/2:n], p, 1)[0]
		s.look(state, x.agree(state, in))
		choices = choices[n:]
	}
}

// onward: from the beginning on, by Init and Next, the gates' states are the machine's.
func onward(t testing.TB, p flat.Program, in [][]api.Value) {
	t.Helper()
	x := newPair(t, p)
	bits := x.Init
	for _, now := range in {
		state := x.m.State()
		if !slices.Equal(bits, bitsIn(state)) {
			t.Fatalf("%s%v: %v, want %v", text(t, p), in, bits, state)
		}
		if x.agree(state, now).Trap {
			return
		}
		bits = x.holds(state, now, x.Next...)
	}
}

func TestP142Anywhere(t *testing.T) {
	r := rand.New(rand.NewSource(142))
	s := new(seen)
	for range 2000 {
		anywhere(t, s, sample.Program(drawn(r, 600)), drawn(r, 400))
	}
	if s.instants < 30000 || s.first < 10000 || s.traps < 3000 || s.firstTraps < 1500 || s.asserts < 5000 || s.checks < 5000 || s.memories < 60000 {
		t.Errorf("only %+v", *s)
	}
}

func TestP141P142Run(t *testing.T) {
	r := rand.New(rand.NewSource(141))
	ticks, traps := 0, 0
	for range 2000 {
		p := sample.Program(drawn(r, 600))
		in := sample.Inputs(drawn(r, 100), p, r.Intn(14))
		l := ran(t, p, in)
		ticks += len(l)
		if len(l) > 0 && l[len(l)-1].Trap {
			traps++
		}
		onward(t, p, in)
	}
	if ticks < 7000 || traps < 300 {
		t.Errorf("only %d ticks, %d traps", ticks, traps)
	}
}

// valuesOf the lowest bits of n, and what is left of it.
func valuesOf(t testing.TB, kinds []int, n int) ([]api.Value, int) {
	t.Helper()
	var l []api.Value
	for _, kind := range kinds {
		bits := make([]bool, width(kind))
		for i := range bits {
			bits[i] = n&1 == 1
			n >>= 1
		}
		v, err := word.Value(bits)
		if err != nil {
			t.Fatal(err)
		}
		l = append(l, v)
	}
	return l, n
}

// TestP142All: of programs with few bits, all states and all inputs.
func TestP142All(t *testing.T) {
	r := rand.New(rand.NewSource(143))
	s := new(seen)
	for programs := 0; programs < 150; {
		p := sample.Program(drawn(r, 400))
		x := newPair(t, p)
		if n := x.G.Inputs(); n < 4 || n > 11 {
			continue
		}
		programs++
		var inputs []int
		for _, v := range p.In {
			inputs = append(inputs, v.Kind)
		}
		kinds := kindsIn(x.m.State())
		for n := range 1 << x.G.Inputs() {
			in, rest := valuesOf(t, inputs, n)
			state, _ := valuesOf(t, kinds, rest)
			s.look(state, x.agree(state, in))
		}
	}
	if s.instants < 30000 || s.first < 15000 || s.traps < 1000 || s.firstTraps < 500 || s.checks < 5000 || s.memories < 20000 {
		t.Errorf("only %+v", *s)
	}
}

func FuzzTrans(f *testing.F) {
	r := rand.New(rand.NewSource(144))
	f.Add(drawn(r, 300), drawn(r, 200))
	f.Add(bytes.Repeat([]byte{3, 7, 5, 9, 1}, 60), []byte{})
	f.Fuzz(func(t *testing.T, program, choices []byte) {
		if len(program) > 600 || len(choices) > 300 {
			return
		}
		p := sample.Program(program)
		in := sample.Inputs(choices, p, 1+len(choices)%9)
		anywhere(t, new(seen), p, choices)
		onward(t, p, in)
		ran(t, p, in)
	})
}
