package prove

import (
	"math/rand"
	"slices"
	"strconv"
	"strings"
	"testing"

	"lustrum/api"
	"lustrum/find"
	"lustrum/flat"
	"lustrum/sample"
	"lustrum/step"
)

// allOf such kinds: lists of all values that they have; nil: there are too many.
func allOf(kinds []int, most int) [][]api.Value {
	all := [][]api.Value{nil}
	for _, kind := range kinds {
		least, greatest := 0, 1
		if kind == api.Int {
			least, greatest = -128, 127
		}
		if len(all)*(greatest-least+1) > most {
			return nil
		}
		var next [][]api.Value
		for _, l := range all {
			for n := least; n <= greatest; n++ {
				next = append(next, append(slices.Clone(l), api.Value{Kind: kind, N: n}))
			}
		}
		all = next
	}
	return all
}

// second way, by the document's words: all inputs at all states (of any values, but that the beginning alone has its first one), by a machine.
type second struct {
	states [][]api.Value // the beginning is the first one
	wrong  []bool        // of each: an instant of it is wrong, if none ahead is
	from   [][]int       // of each: states from which an instant that is not wrong, and holds to all asserts, leads to it
	steps  int           // that it may still go
}

func secondOf(t testing.TB, p flat.Program, c int) *second {
	t.Helper()
	m, err := step.New(p, false, 0)
	if err != nil {
		t.Fatal(err)
	}
	start := m.State()
	var kinds, inputKinds []int
	for _, v := range start[1:] {
		kinds = append(kinds, v.Kind)
	}
	for _, v := range p.In {
		inputKinds = append(inputKinds, v.Kind)
	}
	all, inputs := allOf(kinds, 300), allOf(inputKinds, 300)
	if all == nil || inputs == nil || len(all)*len(inputs) > 4000 {
		return nil
	}
	s := &second{states: [][]api.Value{start}, steps: 100000}
	for _, l := range all {
		s.states = append(s.states, append([]api.Value{{Kind: api.Bool}}, l...))
	}
	s.wrong, s.from = make([]bool, len(s.states)), make([][]int, len(s.states))
	places := map[string]int{}
	for n, state := range s.states {
		places[keyOf(state)] = n
	}
	for n := range s.states {
		for _, in := range inputs {
			s.instant(t, m, c, n, in, places)
		}
	}
	return s
}

func keyOf(l []api.Value) string {
	var b []byte
	for _, v := range l {
		b = append(b, byte(v.N))
	}
	return string(b)
}

func (s *second) instant(t testing.TB, m *step.Machine, c, n int, in []api.Value, places map[string]int) {
	t.Helper()
	if err := m.Load(s.states[n]); err != nil {
		t.Fatal(err)
	}
	k, err := m.Tick(in)
	if err != nil {
		t.Fatal(err)
	}
	switch {
	case k.Trap:
		s.wrong[n] = s.wrong[n] || c < 0
	case k.Assert && c >= 0 && !k.Checks[c]:
		s.wrong[n] = true
	case k.Assert:
		to := places[keyOf(m.State())]
		if !slices.Contains(s.from[to], n) {
			s.from[to] = append(s.from[to], n)
		}
	}
}

// base: with how many instants from the beginning on the last one is wrong first; 0: never.
func (s *second) base() int {
	layer, seen := []int{0}, map[int]struct{}{0: {}}
	for n := 1; len(layer) > 0; n++ {
		if slices.ContainsFunc(layer, func(at int) bool { return s.wrong[at] }) {
			return n
		}
		var next []int
		for to, l := range s.from {
			_, known := seen[to]
			if !known && slices.ContainsFunc(l, func(at int) bool { return slices.Contains(layer, at) }) {
				next = append(next, to)
				seen[to] = struct{}{}
			}
		}
		layer = next
	}
	return 0
}

// step: is there a path of k + 1 states, all of them unlike, to one that is wrong? It is gone through from there on back.
func (s *second) step(k int) bool {
	on := make([]bool, len(s.states))
	var back func(at, left int) bool
	back = func(at, left int) bool {
		if s.steps--; left == 0 || s.steps < 0 {
			return left == 0
		}
		on[at] = true
		ok := slices.ContainsFunc(s.from[at], func(n int) bool { return !on[n] && back(n, left-1) })
		on[at] = false
		return ok
	}
	for n, is := range s.wrong {
		if is && back(n, k) {
			return true
		}
	}
	return false
}

// least number that proves, up to most; 0: there is none. Is it sure?
func (s *second) least(most int) (int, bool) {
	first := s.base()
	for k := 1; k <= most && (first == 0 || first > k); k++ {
		if !s.step(k) {
			return k, s.steps >= 0
		}
	}
	return 0, s.steps >= 0
}

// seen counts what was shown.
type seen struct {
	proved, deep, traps, wrong, open, tired int
}

func (n *seen) count(c, first, want int) {
	switch {
	case want > 0 && c < 0:
		n.traps++
	case want > 0:
		n.proved++
	case first > 0:
		n.wrong++
	default:
		n.open++
	}
	if want > 1 {
		n.deep++
	}
}

// agree with the second way about all checks, and traps, of a program.
func agree(t testing.TB, n *seen, p flat.Program, most int) {
	t.Helper()
	for c := -1; c < len(p.Checks); c++ {
		s := secondOf(t, p, c)
		if s == nil {
			continue
		}
		first := s.base()
		want, sure := s.least(most)
		for k := 1; k <= most; k++ {
			wantStep := s.step(k)
			if s.steps < 0 {
				break
			}
			base, step := formulas(t, p, c, k)
			if gotBase, gotStep := holds(t, base), holds(t, step); gotBase != (first > 0 && first <= k) || gotStep != wantStep {
				t.Fatalf("%scheck %d, %d: %v, %v, but it is wrong first at %d, and %v", text(t, p), c, k, gotBase, gotStep, first, wantStep)
			}
		}
		if !sure {
			continue
		}
		n.count(c, first, want)
		proved(t, p, c, most, api.MaxEffort, want)
		n.tires(t, p, c, most, want)
	}
}

// tires: with little effort it tells the same, or nothing.
func (n *seen) tires(t testing.TB, p flat.Program, c, most, want int) {
	t.Helper()
	for _, effort := range []int{0, 3} {
		x, ok, err := Induction(p, c, most, effort)
		if err != nil || ok && x.K != want {
			t.Fatalf("%s%d: %v, %v", text(t, p), c, x, err)
		}
		isRight(t, p, c, x, ok)
		if !ok && want > 0 {
			n.tired++
		}
	}
}

// drawer of a program's text.
type drawer struct{ choices []byte }

func (d *drawer) below(n int) int {
	if len(d.choices) == 0 {
		return 0
	}
	c := int(d.choices[0]) % n
	d.choices = d.choices[1:]
	return c
}

func (d *drawer) word(l ...string) string { return l[d.below(len(l))] }

// truth of these names.
func (d *drawer) truth(deep int, names ...string) string {
	if deep == 0 || d.below(5) == 0 {
		return d.word(names...)
	}
	one := func() string { return d.truth(deep-1, names...) }
	switch d.below(9) {
	case 0, 1:
		return "(not " + one() + ")"
	case 2:
		return "(if " + one() + " then " + one() + " else " + one() + ")"
	case 3:
		return "(" + d.word("true", "false") + " -> " + one() + ")"
	}
	return "(" + one() + " " + d.word("and", "and", "or", "xor", "xor", "=>", "=", "<>") + " " + one() + ")"
}

// memory of that name: often one that stays as it is, or is as an input was, so that there are states that are never reached.
func (d *drawer) memory(m string, inputs, names []string) string {
	e := d.truth(3, names...)
	switch d.below(5) {
	case 0:
		e = d.word(inputs...)
	case 1, 2:
		e = m + " " + d.word("and", "or") + " " + d.truth(1, names...)
	case 3:
		e = m + " xor " + d.truth(2, names...)
	}
	return m + " = " + d.word("true", "false") + " fby (" + e + ");"
}

// bools: a program without ints, of that many memories.
func (d *drawer) bools(t testing.TB, n int) flat.Program {
	t.Helper()
	inputs := []string{"a", "b", "c"}[:1+d.below(3)]
	memories := []string{"p", "q", "r", "s", "u"}[:n]
	names := slices.Concat(inputs, memories)
	head := strings.Join(inputs, ": bool; ") + ": bool) returns (" + strings.Join(append(memories, "o"), ": bool; ") + ": bool)"
	l := []string{"o = " + inputs[0] + ";"}
	for _, m := range memories {
		l = append(l, d.memory(m, inputs, names))
	}
	for range d.below(3) {
		l = append(l, "assert "+d.truth(2, names...)+";")
	}
	for range 1 + d.below(3) {
		l = append(l, "check "+d.rare(names)+";")
	}
	return made(t, head, strings.Join(l, " "))
}

// rare: what does not hold at few of the values that these names can have.
func (d *drawer) rare(names []string) string {
	l := slices.Clone(names)
	for i := range l {
		l[i] = d.word("", "not ", "not ") + l[i]
	}
	return "not (" + strings.Join(l[:1+d.below(len(l))], " and ") + ") or " + d.truth(2, names...)
}

// ints: an int goes its way, by one input; it may trap, or not hold to an assert, at some of its states.
func (d *drawer) ints(t testing.TB) flat.Program {
	t.Helper()
	n := func(n int) string { return strconv.Itoa(d.below(n)) }
	s := "o = " + n(5) + " fby (if b then (o * " + n(4) + " + " + n(9) + ") mod " + strconv.Itoa(2+d.below(40)) + " else o "
	s += d.word("+ 1", "- 1", "/ 2", "* 2", "/ (o - "+n(9)+")", "mod "+strconv.Itoa(2+d.below(9)), "+ 0") + "); "
	s += "check o <> " + n(99) + "; check o < " + n(60) + " or b; check o > -" + n(9) + "; "
	s += "assert o <> " + n(90) + " or " + d.word("b", "not b", "false") + ";"
	return made(t, "b: bool) returns (o: int)", s)
}

func TestP163Bools(t *testing.T) {
	t.Parallel()
	r := rand.New(rand.NewSource(160))
	n := new(seen)
	for range 400 {
		d := drawer{drawn(r, 300)}
		agree(t, n, d.bools(t, r.Intn(4)), 9)
	}
	if n.proved < 400 || n.traps < 300 || n.deep < 35 || n.wrong < 200 || n.tired < 30 {
		t.Errorf("only %+v", *n)
	}
}

func TestP163Ints(t *testing.T) {
	t.Parallel()
	r := rand.New(rand.NewSource(161))
	n := new(seen)
	for range 60 {
		d := drawer{drawn(r, 30)}
		agree(t, n, d.ints(t), 4)
	}
	if n.proved < 30 || n.traps < 15 || n.deep < 10 || n.wrong < 30 || n.open < 10 || n.tired < 3 {
		t.Errorf("only %+v", *n)
	}
}

func TestP163Samples(t *testing.T) {
	r := rand.New(rand.NewSource(162))
	n := new(seen)
	for range 1200 {
		agree(t, n, sample.Program(drawn(r, 600)), 3)
	}
	if n.proved < 60 || n.traps < 120 || n.wrong < 60 {
		t.Errorf("only %+v", *n)
	}
}

// TestP163All: with as many as there are states, all that never goes wrong is proved, and nothing else is.
func TestP163All(t *testing.T) {
	t.Parallel()
	r := rand.New(rand.NewSource(163))
	deepest := [5]int{}
	for range 900 {
		d := drawer{drawn(r, 300)}
		memories := r.Intn(5)
		p := d.bools(t, memories)
		for c := range p.Checks {
			s := secondOf(t, p, c)
			x, ok, err := Induction(p, c, 1<<memories+1, api.MaxEffort)
			if ok != (s.base() == 0) || err != nil {
				t.Fatalf("%s%d: %v, %v", text(t, p), c, ok, err)
			}
			isRight(t, p, c, x, ok)
			deepest[memories] = max(deepest[memories], x.K)
		}
	}
	if deepest[0] < 1 || deepest[1] < 2 || deepest[2] < 3 || deepest[3] < 6 || deepest[4] < 10 {
		t.Errorf("only %v", deepest)
	}
}

// TestP163Wider: more states and inputs than can be gone through: what is proved is not found.
func TestP163Wider(t *testing.T) {
	t.Parallel()
	r := rand.New(rand.NewSource(164))
	proofs, long := 0, 0
	for range 400 {
		p := sample.Program(drawn(r, 600))
		for i, e := range p.Checks {
			// Many of them are wrong at once; behind an instant fewer are.
			p.Checks[i] = op("fby", op("true"), op("or", e, op("not", e)))
			if r.Intn(2) == 0 {
				p.Checks[i] = op("->", op("true"), op("=>", op("pre", e), e))
			}
		}
		for c := -1; c < len(p.Checks); c++ {
			x, ok, err := Induction(p, c, 3, 2000)
			if err != nil {
				t.Fatal(err)
			}
			isRight(t, p, c, x, ok)
			f, err := find.Trace(p, c, 6, 3000)
			if ok && f.Kind == "wrong" || err != nil {
				t.Fatalf("%s%d: proved by %d, but %v, %v", text(t, p), c, x.K, f, err)
			}
			if ok {
				proofs++
			}
			if len(x.Step) > 1 {
				long++
			}
		}
	}
	if proofs < 300 || long < 12 {
		t.Errorf("only %d, %d", proofs, long)
	}
}

func FuzzProve(f *testing.F) {
	r := rand.New(rand.NewSource(165))
	f.Add(drawn(r, 300), byte(3))
	f.Add(drawn(r, 300), byte(101))
	f.Add(drawn(r, 30), byte(200))
	f.Fuzz(func(t *testing.T, choices []byte, n byte) {
		if len(choices) > 600 {
			return
		}
		d := drawer{choices}
		switch n % 3 {
		case 0:
			agree(t, new(seen), d.bools(t, int(n)/3%4), 9)
		case 1:
			agree(t, new(seen), d.ints(t), 4)
		default:
			agree(t, new(seen), sample.Program(choices), 3)
		}
	})
}
