package graph

import (
	"math/rand"
	"slices"
	"testing"

	"lustrum/api"
)

// mostInputs of a random graph, so that a table has a bit for all that they can be together.
const mostInputs = 6

// table of a literal: bit n tells whether it holds, input i being bit i of n.
type table uint64

func inputTable(i int) table {
	var l table
	for n := range 1 << mostInputs {
		l |= table(n>>i&1) << n
	}
	return l
}

// knot of a second graph.
type knot struct {
	a, b  api.Lit
	input bool
	holds table
}

// second is a graph by the document's words: its gates are held against what is asked for, one by one. Tables are by what is asked for, not by gates.
type second struct {
	knots  []knot // gate 0 is the first
	inputs int
}

func newSecond() *second { return &second{knots: make([]knot, 1)} }

func (s *second) isStranger(l ...api.Lit) bool {
	return slices.ContainsFunc(l, func(x api.Lit) bool { return x < 0 || x > api.Lit(2*len(s.knots)-1) })
}

func (s *second) table(x api.Lit) table {
	if x%2 == 1 {
		return ^s.knots[x/2].holds
	}
	return s.knots[x/2].holds
}

func (s *second) input() api.Lit {
	s.knots = append(s.knots, knot{input: true, holds: inputTable(s.inputs)})
	s.inputs++
	return api.Lit(len(s.knots)-1) * 2
}

func (s *second) and(a, b api.Lit) api.Lit {
	switch {
	case a == 0 || b == 0 || a/2 == b/2 && a != b:
		return 0
	case a == 1 || a == b:
		return b
	case b == 1:
		return a
	case a > b:
		return s.and(b, a)
	}
	for n, k := range s.knots {
		if n > 0 && !k.input && k.a == a && k.b == b {
			return api.Lit(2 * n)
		}
	}
	s.knots = append(s.knots, knot{a: a, b: b, holds: s.table(a) & s.table(b)})
	return api.Lit(len(s.knots)-1) * 2
}

func turned(a api.Lit) api.Lit {
	if a%2 == 0 {
		return a + 1
	}
	return a - 1
}

func (s *second) or(a, b api.Lit) api.Lit { return turned(s.and(turned(a), turned(b))) }

func (s *second) xor(a, b api.Lit) api.Lit {
	first := s.and(a, turned(b))
	return s.or(first, s.and(turned(a), b))
}

func (s *second) choice(c, a, b api.Lit) api.Lit {
	first := s.and(c, a)
	return s.or(first, s.and(turned(c), b))
}

// seen counts what random graphs have shown.
type seen struct {
	gates, again, none, strangers, evals int
}

// game of both graphs, move by move, by choices.
type game struct {
	t       testing.TB
	g       *Graph
	s       *second
	choices []byte
	seen    *seen
}

func (p *game) choose(n int) int {
	if len(p.choices) == 0 {
		return 0
	}
	c := int(p.choices[0])
	p.choices = p.choices[1:]
	return c % n
}

// literal of the graph; those that came first, or last, are there more often, so that gates are asked for again, and stand deep; now and then it is none.
func (p *game) literal() api.Lit {
	n := 2 * len(p.s.knots)
	switch c := p.choose(60); {
	case c == 59:
		return api.Lit(n + p.choose(3))
	case c == 58:
		return api.Lit(-1 - p.choose(3))
	case c < 15:
		return api.Lit(n - 1 - p.choose(min(n, 8)))
	case c < 45:
		return api.Lit(p.choose(min(n, 14)))
	}
	return api.Lit(p.choose(min(n, 256)))
}

// told of a move: the literal that the second graph has for it, and the table that it must have.
type told struct {
	x     api.Lit
	holds table
}

func (p *game) move() {
	p.t.Helper()
	before := len(p.s.knots)
	c, a, b := p.literal(), p.literal(), p.literal()
	kind := p.choose(9)
	if kind == 0 && p.s.inputs < mostInputs {
		want := p.s.input()
		x, err := p.g.Input()
		p.agrees(x, err, told{want, inputTable(p.s.inputs - 1)})
		return
	}
	x, err := p.ask(kind, c, a, b)
	if p.s.isStranger(a, b) || kind > 6 && p.s.isStranger(c) {
		p.seen.strangers++
		if x != 0 || err != api.ErrShape {
			p.t.Fatalf("%d of %d, %d, %d: %d, %v", kind, c, a, b, x, err)
		}
		p.same()
		return
	}
	p.agrees(x, err, p.answer(kind, c, a, b))
	switch {
	case len(p.s.knots) > before:
		p.seen.gates++
	case x/2 == a/2 || x/2 == b/2 || x/2 == c/2 || x < 2:
		p.seen.none++
	default:
		p.seen.again++
	}
}

// ask the graph.
func (p *game) ask(kind int, c, a, b api.Lit) (api.Lit, error) {
	switch kind {
	default:
		return p.g.And(a, b)
	case 4:
		return p.g.Or(a, b)
	case 5, 6:
		return p.g.Xor(a, b)
	case 7, 8:
		return p.g.If(c, a, b)
	}
}

// answer of the second graph to the same.
func (p *game) answer(kind int, c, a, b api.Lit) told {
	v, w := p.s.table(a), p.s.table(b)
	switch kind {
	default:
		return told{p.s.and(a, b), v & w}
	case 4:
		return told{p.s.or(a, b), v | w}
	case 5, 6:
		return told{p.s.xor(a, b), v ^ w}
	case 7, 8:
		k := p.s.table(c)
		return told{p.s.choice(c, a, b), k&v | ^k&w}
	}
}

func (p *game) agrees(x api.Lit, err error, want told) {
	p.t.Helper()
	if x != want.x || err != nil {
		p.t.Fatalf("%d, %v, want %d", x, err, want.x)
	}
	p.same()
	if p.s.table(x) != want.holds {
		p.t.Fatalf("%d holds in %x, want %x", x, p.s.table(x), want.holds)
	}
}

func (p *game) same() {
	p.t.Helper()
	if p.g.Gates() != len(p.s.knots) || p.g.Inputs() != p.s.inputs {
		p.t.Fatalf("%d gates, %d inputs, want %d, %d", p.g.Gates(), p.g.Inputs(), len(p.s.knots), p.s.inputs)
	}
}

// parts are those of the second graph; no two gates have the same.
func (p *game) parts() {
	p.t.Helper()
	of := map[[2]api.Lit]int{}
	for n, k := range p.s.knots[1:] {
		a, b, input, err := p.g.Parts(n + 1)
		if a != k.a || b != k.b || input != k.input || err != nil {
			p.t.Fatalf("gate %d: %d, %d, %v, %v, want %v", n+1, a, b, input, err, k)
		}
		if input {
			continue
		}
		if first := of[[2]api.Lit{a, b}]; first > 0 {
			p.t.Fatalf("gates %d and %d are both of %d, %d", first, n+1, a, b)
		}
		of[[2]api.Lit{a, b}] = n + 1
		if a < 2 || a >= b || a/2 == b/2 || int(b/2) > n {
			p.t.Fatalf("gate %d is of %d, %d", n+1, a, b)
		}
	}
}

// evals of all literals, for all that inputs can be.
func (p *game) evals() {
	p.t.Helper()
	var l []api.Lit
	for x := range 2 * len(p.s.knots) {
		l = append(l, api.Lit(x))
	}
	for n := range 1 << p.s.inputs {
		in := make([]bool, p.s.inputs)
		for i := range in {
			in[i] = n>>i&1 == 1
		}
		got, err := p.g.Eval(in, l)
		if len(got) != len(l) || err != nil {
			p.t.Fatal(got, err)
		}
		for x, holds := range got {
			if want := p.s.table(api.Lit(x))>>n&1 == 1; holds != want {
				p.t.Fatalf("literal %d of %v: %v", x, in, holds)
			}
		}
		p.seen.evals++
	}
}

func play(t testing.TB, s *seen, choices []byte) {
	t.Helper()
	p := &game{t: t, g: new(Graph), s: newSecond(), choices: choices, seen: s}
	for len(p.choices) > 0 {
		p.move()
	}
	p.parts()
	p.evals()
}

func drawn(r *rand.Rand, n int) []byte {
	l := make([]byte, n)
	r.Read(l)
	return l
}

func TestP93Second(t *testing.T) {
	r := rand.New(rand.NewSource(93))
	s := new(seen)
	for range 1500 {
		play(t, s, drawn(r, r.Intn(1500)))
	}
	if s.gates < 20000 || s.again < 2000 || s.none < 10000 || s.strangers < 5000 || s.evals < 30000 {
		t.Errorf("only %+v", *s)
	}
}

func FuzzGraph(f *testing.F) {
	r := rand.New(rand.NewSource(94))
	f.Add(drawn(r, 50))
	f.Add(drawn(r, 800))
	f.Fuzz(func(t *testing.T, choices []byte) {
		if len(choices) < 2000 {
			play(t, new(seen), choices)
		}
	})
}
