package reach

import (
	"bytes"
	"math/rand"
	"slices"
	"strconv"
	"testing"

	"lustrum/api"
	"lustrum/flat"
	"lustrum/flow"
	"lustrum/sample"
	"lustrum/step"
)

// stop of a second search: a state, and the inputs that lead there from the beginning.
type stop struct {
	state []api.Value
	way   [][]api.Value
}

// along a way from the beginning on, by a new machine: the last instant, and the state behind it.
func along(t testing.TB, p flat.Program, way [][]api.Value) (flow.Tick, []api.Value) {
	t.Helper()
	m, err := step.New(p, false, 0)
	if err != nil {
		t.Fatal(err)
	}
	var k flow.Tick
	for _, in := range way {
		if k, err = m.Tick(in); err != nil {
			t.Fatal(err)
		}
	}
	return k, m.State()
}

// secondSearch by the document's words: each state is come to by its whole way, and held against all that are there.
func secondSearch(t testing.TB, p flat.Program, choices [][]api.Value, most int) (Told, error) {
	t.Helper()
	_, start := along(t, p, nil)
	stops := []stop{{state: start}}
	for n := 0; n < len(stops); n++ {
		for _, in := range choices {
			way := append(slices.Clone(stops[n].way), in)
			k, state := along(t, p, way)
			switch {
			case k.Trap:
				return Told{len(stops), way, -1}, nil
			case !k.Assert:
				continue
			}
			for c, holds := range k.Checks {
				if !holds {
					return Told{len(stops), way, c}, nil
				}
			}
			if !slices.ContainsFunc(stops, func(s stop) bool { return slices.Equal(s.state, state) }) {
				stops = append(stops, stop{state, way})
			}
			if len(stops) > most {
				return Told{}, api.ErrBound
			}
		}
	}
	return Told{len(stops), nil, -2}, nil
}

func alike(a, b Told) bool {
	return a.States == b.States && a.Check == b.Check && slices.EqualFunc(a.Trace, b.Trace, func(v, w []api.Value) bool { return slices.Equal(v, w) })
}

// goesWrong tells what goes wrong at the last one of these instants, by flow.Run, if asserts hold ahead of it, and nothing goes wrong there.
func goesWrong(t testing.TB, p flat.Program, in [][]api.Value) int {
	t.Helper()
	l, err := flow.Run(p, in, true, 77)
	if err != nil {
		t.Fatal(err)
	}
	for n, k := range l {
		c := slices.Index(k.Checks, false)
		switch {
		case k.Trap:
			c = -1
		case !k.Assert:
			return -2
		case c < 0:
			continue
		}
		if n == len(in)-1 {
			return c
		}
		return -2
	}
	return -2
}

// firstOf all inputs of so many instants with which the last one goes wrong, in the order of choices.
func firstOf(t testing.TB, p flat.Program, choices [][]api.Value, instants int, ahead [][]api.Value) ([][]api.Value, int) {
	t.Helper()
	if instants == 0 {
		return ahead, goesWrong(t, p, ahead)
	}
	for _, in := range choices {
		if l, c := firstOf(t, p, choices, instants-1, append(slices.Clone(ahead), in)); c != -2 {
			return l, c
		}
	}
	return nil, -2
}

// seen counts what searches have shown.
type seen struct {
	none, checks, traps, bounds, states, deep, later, tried int
}

func (s *seen) count(x Told, err error) {
	switch {
	case err != nil:
		s.bounds++
	case x.Check == -2:
		s.none++
	case x.Check == -1:
		s.traps++
	default:
		s.checks++
	}
	if len(x.Trace) > 2 {
		s.deep++
	}
	if x.Check > 0 {
		s.later++
	}
	s.states += x.States
}

// both searches tell the same.
func both(t testing.TB, s *seen, p flat.Program, choices [][]api.Value, most int) (Told, error) {
	t.Helper()
	got, err := Search(p, choices, most)
	want, wantErr := secondSearch(t, p, choices, most)
	if !alike(got, want) || err != wantErr {
		text, _ := flat.Text(p)
		t.Fatalf("%s%v, most %d: %v, %v, want %v, %v", text, choices, most, got, err, want, wantErr)
	}
	s.count(got, err)
	return got, err
}

// isShortest holds what is told to all inputs of so many instants and fewer.
func isShortest(t testing.TB, s *seen, p flat.Program, choices [][]api.Value, x Told, instants int) {
	t.Helper()
	if x.Check != -2 && goesWrong(t, p, x.Trace) != x.Check {
		t.Fatalf("%v is not wrong", x)
	}
	for n := 1; n <= instants; n++ {
		l, c := firstOf(t, p, choices, n, nil)
		s.tried++
		switch {
		case c == -2 && len(x.Trace) != n:
			continue
		case c == x.Check && slices.EqualFunc(l, x.Trace, func(v, w []api.Value) bool { return slices.Equal(v, w) }):
			return
		}
		text, _ := flat.Text(p)
		t.Fatalf("%s%v: %v, but %v is wrong by %d", text, choices, x, l, c)
	}
}

// automaton of two small ints, whose states lie some way off each other; it may trap, or hold on to asserts, at some of them.
func automaton(t testing.TB, choices []byte) flat.Program {
	t.Helper()
	below := func(n int) string {
		if len(choices) == 0 {
			return "1"
		}
		c := int(choices[0]) % n
		choices = choices[1:]
		return strconv.Itoa(c)
	}
	s := "x = " + below(3) + " -> (pre x * " + below(3) + " + pre y * " + below(3) + " + i + " + below(4) + ") mod (2 + " + below(6) + ");"
	s += "y = " + below(3) + " -> (pre y * " + below(3) + " + pre x + (if b then " + below(3) + " else " + below(3) + ")) mod (2 + " + below(6) + ");"
	s += "o = 60 / (x - y * 2 + " + below(20) + ");"
	s += "check not (x = " + below(9) + " and y = " + below(9) + ");"
	s += "check not (x * y = " + below(20) + " and i = " + below(4) + ");"
	s += "assert not (x + y = " + below(12) + " or b and i = " + below(9) + ");"
	return madeOf(t, "i: int; b: bool", "x: int; y: int", s)
}

// few choices of small ints, for an automaton.
func few(choices []byte, n int) [][]api.Value {
	var l [][]api.Value
	for _, c := range choices[:min(n, len(choices))] {
		l = append(l, values(whole(int(c)%5-1), bit(int(c)/5%2)))
	}
	return l
}

func drawn(r *rand.Rand, n int) []byte {
	l := make([]byte, n)
	r.Read(l)
	return l
}

// random program, and choices of it.
func random(t testing.TB, r *rand.Rand, many int) (flat.Program, [][]api.Value) {
	t.Helper()
	if r.Intn(3) == 0 {
		p := sample.Program(drawn(r, 600))
		return p, sample.Inputs(drawn(r, 100), p, many)
	}
	return automaton(t, drawn(r, 30)), few(drawn(r, 10), many)
}

func TestP80Second(t *testing.T) {
	r := rand.New(rand.NewSource(80))
	s := new(seen)
	for range 2000 {
		p, choices := random(t, r, r.Intn(6))
		both(t, s, p, choices, 1+r.Intn(60))
	}
	if s.none < 500 || s.checks < 200 || s.traps < 200 || s.bounds < 100 || s.states < 5000 || s.deep < 100 || s.later < 50 {
		t.Errorf("only %+v", *s)
	}
}

func TestP82Second(t *testing.T) {
	r := rand.New(rand.NewSource(82))
	s := new(seen)
	for range 1000 {
		many := 1 + r.Intn(3)
		p, choices := random(t, r, many)
		if x, err := both(t, s, p, choices, 60); err == nil {
			isShortest(t, s, p, choices, x, []int{0, 12, 5, 4}[many])
		}
	}
	if s.none < 300 || s.checks < 100 || s.traps < 100 || s.states < 3000 || s.deep < 50 || s.later < 20 || s.tried < 2000 {
		t.Errorf("only %+v", *s)
	}
}

func FuzzSearch(f *testing.F) {
	r := rand.New(rand.NewSource(81))
	f.Add(drawn(r, 300), drawn(r, 100), byte(3))
	f.Add(bytes.Repeat([]byte{3, 7, 5, 9, 1}, 60), []byte{}, byte(200))
	f.Fuzz(func(t *testing.T, program, choices []byte, n byte) {
		if len(program) > 600 || len(choices) > 300 {
			return
		}
		p := sample.Program(program)
		l := sample.Inputs(choices, p, 1+int(n/2)%3)
		if n&1 == 1 {
			p, l = automaton(t, program), few(choices, 1+int(n/2)%3)
		}
		if x, err := both(t, new(seen), p, l, 40); err == nil {
			isShortest(t, new(seen), p, l, x, 4)
		}
	})
}
