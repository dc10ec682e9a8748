package unroll

import (
	"math/rand"
	"slices"
	"testing"

	"lustrum/api"
	"lustrum/graph"
	"lustrum/sample"
	"lustrum/step"
	"lustrum/trans"
)

func opened(t testing.TB, s trans.System, asked []api.Lit) *Roll {
	t.Helper()
	r, err := Open(s, asked)
	if err != nil || r == nil || r.Graph.Gates() != 1 || len(r.Ins)+len(r.States) > 0 {
		t.Fatal(err)
	}
	return r
}

// anyState of a machine: the beginning, or one in which an instant has been.
func anyState(r *rand.Rand, m *step.Machine) []api.Value {
	l := m.State()
	if r.Intn(3) == 0 {
		return l
	}
	var kinds []int
	for _, v := range l[1:] {
		kinds = append(kinds, v.Kind)
	}
	return append([]api.Value{{Kind: api.Bool}}, sample.Values(drawn(r, 200), kinds)...)
}

// TestOpenInstants: from whatever state on, instants are as a machine tells, and so are states, if they are asked for.
func TestOpenInstants(t *testing.T) {
	r := rand.New(rand.NewSource(16))
	ticks, traps, memories := 0, 0, 0
	for range 600 {
		p := sample.Program(drawn(r, 600))
		s := systemOf(t, p)
		m, err := step.New(p, false, 0)
		if err != nil {
			t.Fatal(err)
		}
		start := anyState(r, m)
		if err := m.Load(start); err != nil {
			t.Fatal(err)
		}
		roll := opened(t, s, slices.Concat([]api.Lit{s.Trap, s.Assert}, s.Checks, s.Out, s.Mem))
		in := sample.Inputs(drawn(r, 100), p, 1+r.Intn(5))
		bits := bitsOf(t, start)
		for at, now := range in {
			state := bitsOf(t, m.State())
			k, err := m.Tick(now)
			if err != nil {
				t.Fatal(err)
			}
			asked := added(t, roll)
			for i, is := range bitsOf(t, now) {
				if roll.Ins[at][i] > 0 {
					bits = append(bits, is)
				}
			}
			got, err := roll.Graph.Eval(bits, slices.Concat(asked, roll.States[at]))
			if err != nil || got[0] != k.Trap {
				t.Fatal(at, got, err)
			}
			want := slices.Concat([]bool{false, k.Assert}, k.Checks, bitsOf(t, k.Out), state, state)
			if k.Trap {
				traps++
				got, want = got[len(got)-len(state):], state
			}
			if !slices.Equal(got, want) {
				t.Fatalf("%d: %v, want %v", at, got, want)
			}
			ticks++
			memories += len(state) - 1
			if k.Trap {
				break
			}
		}
	}
	if ticks < 1000 || traps < 50 || memories < 3000 {
		t.Errorf("only %d, %d, %d", ticks, traps, memories)
	}
}

// TestOpenStates: the first one is of new inputs, as far as it is needed; behind an instant one has been.
func TestOpenStates(t *testing.T) {
	s := system(t, "i: int; b: bool) returns (o: bool; p: bool)", "o = false fby b; p = false fby p; check o; check p;")
	all := opened(t, s, s.Mem)
	if l := added(t, all); !slices.Equal(l, []api.Lit{2, 4, 6}) || !slices.Equal(l, all.States[0]) {
		t.Errorf("%v, %v", l, all.States)
	}
	second := added(t, all)
	if second[0] != 0 || second[1] != all.Ins[0][8] || !slices.Equal(second, all.States[1]) {
		t.Errorf("%v of %v", second, all.Ins)
	}
	one := opened(t, s, s.Checks[:1])
	added(t, one)
	if l := one.States[0]; l[0] == 0 || l[1] == 0 || l[2] != 0 {
		t.Errorf("%v", l)
	}
	none := opened(t, s, nil)
	if l := added(t, none); len(l) > 0 || none.Graph.Gates() != 1 {
		t.Errorf("%v, %d gates", l, none.Graph.Gates())
	}
}

func TestOpenShape(t *testing.T) {
	s := system(t, "i: int; b: bool) returns (o: int)", "o = 1 fby o * i; check o > 3;")
	for _, asked := range [][]api.Lit{{api.Lit(2 * s.G.Gates())}, {1, -1}} {
		if r, err := Open(s, asked); r != nil || err != api.ErrShape {
			t.Errorf("%v: %v", asked, err)
		}
	}
	s.Next = nil
	if r, err := Open(s, s.Checks); r != nil || err != api.ErrShape {
		t.Error(err)
	}
}

// TestWrong: by the words of what is wrong, at instants of any kind.
func TestWrong(t *testing.T) {
	r := rand.New(rand.NewSource(17))
	lasts, aheads := 0, 0
	for range 1000 {
		p := sample.Program(drawn(r, 600))
		s := systemOf(t, p)
		m, err := step.New(p, false, 0)
		if err != nil {
			t.Fatal(err)
		}
		state := anyState(r, m)
		if err := m.Load(state); err != nil {
			t.Fatal(err)
		}
		in := sample.Inputs(drawn(r, 100), p, 1)[0]
		k, err := m.Tick(in)
		if err != nil {
			t.Fatal(err)
		}
		for c := Trap; c < len(p.Checks); c++ {
			wantLast, wantAhead := k.Trap, !k.Trap && k.Assert
			if c != Trap {
				wantLast = !k.Trap && k.Assert && !k.Checks[c]
				wantAhead = !k.Trap && k.Assert && k.Checks[c]
			}
			last, ahead := Wrong(s, c)
			for n, l := range [][]api.Lit{last, ahead} {
				got, err := s.G.Eval(slices.Concat(bitsOf(t, in), bitsOf(t, state)), l)
				if want := []bool{wantLast, wantAhead}[n]; err != nil || slices.Contains(got, false) == want {
					t.Fatalf("%v: %v, want %v", k, got, want)
				}
			}
			if wantLast {
				lasts++
			}
			if wantAhead {
				aheads++
			}
			last[0], ahead[0] = graph.Not(last[0]), 0
			if again, _ := Wrong(s, c); slices.Equal(again, last) {
				t.Error("shared")
			}
		}
	}
	if lasts < 300 || aheads < 500 {
		t.Errorf("only %d, %d", lasts, aheads)
	}
}
