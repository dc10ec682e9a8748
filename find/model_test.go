package find

import (
	"bytes"
	"math/rand"
	"slices"
	"strconv"
	"strings"
	"testing"

	"lustrum/api"
	"lustrum/flat"
	"lustrum/flow"
	"lustrum/sample"
	"lustrum/step"
)

// allInputs of a program: all values of its bools, and of its ints, if they are not too many.
func allInputs(p flat.Program) [][]api.Value {
	all := [][]api.Value{nil}
	for _, v := range p.In {
		var next [][]api.Value
		least, most := 0, 1
		if v.Kind == api.Int {
			least, most = -128, 127
		}
		for _, l := range all {
			for n := least; n <= most; n++ {
				next = append(next, append(slices.Clone(l), api.Value{Kind: v.Kind, N: n}))
			}
		}
		if all = next; len(all) > 600 {
			return nil
		}
	}
	return all
}

// second search, by the document's words: all inputs at all states, from the beginning on, by a machine. It tells how many instants there are up to the first one that is wrong (0: none), and whether it went through all of them.
type second struct {
	testing.TB
	m      *step.Machine
	inputs [][]api.Value
	c      int
	ticks  int // that it may still make
}

func (s *second) run(depth int) (want int, ok bool) {
	layer := [][]api.Value{s.m.State()}
	seen := slices.Clone(layer)
	for n := 1; n <= depth; n++ {
		var next [][]api.Value
		for _, from := range layer {
			for _, in := range s.inputs {
				if s.ticks--; s.ticks < 0 {
					return 0, false
				}
				k, state := s.tick(from, in)
				if s.isWrong(k) {
					return n, true
				}
				known := func(l []api.Value) bool { return slices.Equal(l, state) }
				if !k.Trap && k.Assert && !slices.ContainsFunc(seen, known) {
					seen, next = append(seen, state), append(next, state)
				}
			}
		}
		layer = next
	}
	return 0, true
}

func (s *second) tick(from, in []api.Value) (flow.Tick, []api.Value) {
	if err := s.m.Load(from); err != nil {
		s.Fatal(err)
	}
	k, err := s.m.Tick(in)
	if err != nil {
		s.Fatal(err)
	}
	return k, s.m.State()
}

func (s *second) isWrong(k flow.Tick) bool {
	if s.c < 0 {
		return k.Trap
	}
	return !k.Trap && k.Assert && !k.Checks[s.c]
}

// seen counts what searches have shown.
type seen struct {
	none, checks, traps, deep, later, tired int
}

// agree with a second search about all checks, and traps, of a program.
func agree(t testing.TB, s *seen, p flat.Program, depth, ticks int) {
	t.Helper()
	m, err := step.New(p, false, 0)
	if err != nil {
		t.Fatal(err)
	}
	start := m.State()
	for c := -1; c < len(p.Checks); c++ {
		if err := m.Load(start); err != nil {
			t.Fatal(err)
		}
		x := &second{t, m, allInputs(p), c, ticks}
		want, ok := x.run(depth)
		if !ok || x.inputs == nil {
			continue
		}
		s.count(c, want)
		told(t, p, c, depth, api.MaxEffort, want)
		told(t, p, c, depth, api.MaxEffort-1, want)
		s.tires(t, p, c, depth, want)
	}
}

func (s *seen) count(c, want int) {
	switch {
	case want == 0:
		s.none++
	case c < 0:
		s.traps++
	default:
		s.checks++
	}
	if want > 2 {
		s.deep++
	}
	if want > 0 && c > 0 {
		s.later++
	}
}

// tires: with no effort it tells the same, or nothing.
func (s *seen) tires(t testing.TB, p flat.Program, c, depth, want int) {
	t.Helper()
	x, err := Trace(p, c, depth, 0)
	if x.Kind == "tired" && len(x.Trace) == 0 && err == nil {
		s.tired++
		return
	}
	holds(t, p, c, x, want)
}

// drawer of a program's text.
type drawer struct{ choices []byte }

func (d *drawer) below(n int) int {
	if len(d.choices) == 0 {
		return 0
	}
	c := int(d.choices[0]) % n
	d.choices = d.choices[1:]
	return c
}

func (d *drawer) word(l ...string) string { return l[d.below(len(l))] }

// truth of these names.
func (d *drawer) truth(deep int, names ...string) string {
	if deep == 0 || d.below(5) == 0 {
		return d.word(names...)
	}
	one := func() string { return d.truth(deep-1, names...) }
	switch d.below(9) {
	case 0, 1:
		return "(not " + one() + ")"
	case 2:
		return "(if " + one() + " then " + one() + " else " + one() + ")"
	case 3:
		return "(" + d.word("true", "false") + " -> " + one() + ")"
	}
	return "(" + one() + " " + d.word("and", "and", "or", "xor", "xor", "=>", "=", "<>") + " " + one() + ")"
}

// bools: a program without ints, of up to six memories.
func (d *drawer) bools(t testing.TB) flat.Program {
	t.Helper()
	inputs := []string{"a", "b", "c"}[:d.below(4)]
	memories := []string{"p", "q", "r", "s", "u", "v"}[:1+d.below(6)]
	head := strings.Join(append(slices.Clone(inputs), ""), ": bool; ")
	head = strings.TrimSuffix(head, "; ") + ") returns (" + strings.Join(memories, ": bool; ") + ": bool)"
	names := slices.Concat(inputs, memories)
	var l []string
	for _, m := range memories {
		l = append(l, m+" = "+d.word("true", "false")+" fby "+d.truth(3, names...)+";")
	}
	for range d.below(3) {
		l = append(l, "assert "+d.truth(3, names...)+";")
	}
	for range 1 + d.below(2) {
		l = append(l, "check "+d.rare(names)+";")
	}
	return made(t, head, strings.Join(l, " "))
}

// rare: what does not hold at few of the values that these names can have.
func (d *drawer) rare(names []string) string {
	l := slices.Clone(names)
	for i := range l {
		l[i] = d.word("", "not ", "not ") + l[i]
	}
	return "not (" + strings.Join(l[:1+d.below(len(l))], " and ") + ") or " + d.truth(2, names...)
}

// ints: an automaton of two small ints; it may trap, or hold on to asserts, at some of its states.
func (d *drawer) ints(t testing.TB) flat.Program {
	t.Helper()
	n := func(n int) string { return strconv.Itoa(d.below(n)) }
	s := "x = " + n(3) + " -> (pre x * " + n(3) + " + pre y * " + n(3) + " + i mod 3 + " + n(4) + ") mod (2 + " + n(6) + "); "
	s += "y = " + n(3) + " -> (pre y * " + n(3) + " + pre x + (if b then " + n(3) + " else " + n(3) + ")) mod (2 + " + n(6) + "); "
	s += "o = 60 / (x - y * 2 + " + n(20) + "); "
	s += "check not (x = " + n(9) + " and y = " + n(9) + "); "
	s += "check not (x * y = " + n(20) + " and i = " + n(4) + "); "
	s += "assert not (x + y = " + n(12) + " or b and i = " + n(9) + ");"
	return made(t, "i: int; b: bool) returns (o: int); var x: int; y: int", s)
}

func TestP152Bools(t *testing.T) {
	r := rand.New(rand.NewSource(150))
	s := new(seen)
	for range 700 {
		d := drawer{drawn(r, 300)}
		p := d.bools(t)
		if !newSearch(p, -1, 0).isFew() {
			continue
		}
		agree(t, s, p, r.Intn(14), 5000)
	}
	if s.none < 1000 || s.checks < 200 || s.deep < 40 || s.later < 70 || s.tired < 5 {
		t.Errorf("only %+v", *s)
	}
}

func TestP152Ints(t *testing.T) {
	r := rand.New(rand.NewSource(152))
	s := new(seen)
	for range 70 {
		d := drawer{drawn(r, 30)}
		agree(t, s, d.ints(t), 1+r.Intn(7), 8000)
	}
	if s.none < 70 || s.checks < 15 || s.traps < 15 || s.deep < 15 || s.later < 7 || s.tired < 40 {
		t.Errorf("only %+v", *s)
	}
}

func TestP152Samples(t *testing.T) {
	r := rand.New(rand.NewSource(153))
	s := new(seen)
	for range 250 {
		agree(t, s, sample.Program(drawn(r, 600)), 1+r.Intn(4), 2000)
	}
	if s.none < 50 || s.checks < 30 || s.traps < 30 || s.later < 10 || s.tired < 1 {
		t.Errorf("only %+v", *s)
	}
}

// TestP152Wider: more inputs than can be gone through: what is found is so, and ways that are drawn are not wrong sooner.
func TestP152Wider(t *testing.T) {
	r := rand.New(rand.NewSource(154))
	s := new(seen)
	for range 300 {
		p := sample.Program(drawn(r, 600))
		for c := -1; c < len(p.Checks); c++ {
			x, err := Trace(p, c, 5, 3000)
			if err != nil {
				t.Fatal(err)
			}
			switch x.Kind {
			case "none":
				s.none++
			case "wrong":
				s.count(c, len(x.Trace))
				holds(t, p, c, x, len(x.Trace))
			case "tired":
				s.tired++
			}
			for n := range 5 {
				in := sample.Inputs(drawn(r, 60), p, n+1)
				if (x.Kind == "none" || x.Kind == "wrong" && n+1 < len(x.Trace)) && isWrong(t, p, c, in) {
					t.Fatalf("%s%d: %v, but %v", text(t, p), c, x, in)
				}
			}
		}
	}
	if s.none < 200 || s.checks < 80 || s.traps < 80 || s.later < 20 || s.tired > 30 {
		t.Errorf("only %+v", *s)
	}
}

func FuzzFind(f *testing.F) {
	r := rand.New(rand.NewSource(151))
	f.Add(drawn(r, 300), byte(3))
	f.Add(drawn(r, 300), byte(101))
	f.Add(bytes.Repeat([]byte{3, 7, 5, 9, 1}, 60), byte(200))
	f.Fuzz(func(t *testing.T, choices []byte, n byte) {
		if len(choices) > 600 {
			return
		}
		d := drawer{choices}
		switch n % 3 {
		case 0:
			agree(t, new(seen), d.bools(t), int(n)/3%14, 3000)
		case 1:
			agree(t, new(seen), d.ints(t), int(n)/3%7, 5000)
		default:
			agree(t, new(seen), sample.Program(choices), int(n)/3%4, 3000)
		}
	})
}
