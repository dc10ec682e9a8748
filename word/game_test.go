package word

import (
	"math/rand"
	"testing"

	"lustrum/api"
	"lustrum/flow"
	"lustrum/graph"
)

// worlds of a game: in each of them inputs have other values.
const worlds = 5

// known word of a game: what it is in each world.
type known struct {
	lits   []api.Lit
	values [worlds]api.Value
}

// seen counts what random words have shown.
type seen struct {
	made, refused, traps, partTraps int
}

// game of words made of words, by choices; what they are is told by flow.Apply.
type game struct {
	t       testing.TB
	g       *graph.Graph
	in      [worlds][]bool
	words   []known
	choices []byte
	seen    *seen
}

func (p *game) choose(n int) int {
	if len(p.choices) == 0 {
		return 0
	}
	c := int(p.choices[0])
	p.choices = p.choices[1:]
	return c % n
}

// input of a kind, with a value of choice in each world.
func (p *game) input(kind int) {
	p.t.Helper()
	var k known
	for w := range worlds {
		k.values[w] = bit(p.choose(2))
		if kind == api.Int {
			k.values[w] = p.number()
		}
		bits, err := Bits(k.values[w])
		if err != nil {
			p.t.Fatal(err)
		}
		p.in[w] = append(p.in[w], bits...)
		if w == 0 {
			k.lits = inputs(p.t, p.g, len(bits))
		}
	}
	p.words = append(p.words, k)
}

// number of choice; edges come more often.
func (p *game) number() api.Value {
	if p.choose(2) == 0 {
		return whole(edges()[p.choose(len(edges()))])
	}
	return low(p.choose(256))
}

func (p *game) constant() {
	p.t.Helper()
	v := p.number()
	k := known{lits: constant(p.t, v.N)}
	for w := range worlds {
		k.values[w] = v
	}
	p.words = append(p.words, k)
}

// move: an operator of words; now and then it, or one of them, is not as it must be.
func (p *game) move() {
	p.t.Helper()
	all := operators()
	op := all[p.choose(len(all))]
	many := 2
	switch op {
	case "not", "neg":
		many = 1
	case "if":
		many = 3
	}
	if p.choose(50) == 0 {
		many = p.choose(4)
	}
	var l []known
	for i := range many {
		l = append(l, p.word(op, i))
	}
	p.ask(op, l)
}

// word that fits there, most of the time: of some tries the first one that does.
func (p *game) word(op string, at int) known {
	k := p.words[0]
	for range 6 {
		k = p.words[p.choose(len(p.words))]
		isBool := k.values[0].Kind == api.Bool
		switch op {
		case "not", "and", "or", "xor", "=>":
			if isBool {
				return k
			}
		case "=", "<>":
			return k
		case "if":
			if isBool == (at == 0) {
				return k
			}
		default:
			if !isBool {
				return k
			}
		}
	}
	return k
}

func (p *game) ask(op string, l []known) {
	p.t.Helper()
	var lits [][]api.Lit
	for _, k := range l {
		lits = append(lits, k.lits)
	}
	gates := p.g.Gates()
	out, trap, err := Of(p.g, op, lits)
	next := known{lits: out}
	traps := 0
	for w := range worlds {
		var values []api.Value
		for _, k := range l {
			values = append(values, k.values[w])
		}
		v, isTrap, wrong := flow.Apply(op, values)
		if wrong != nil {
			p.seen.refused++
			if len(out) != 0 || trap != 0 || err != api.ErrShape || p.g.Gates() != gates {
				p.t.Fatalf("%s of %v: %v, %d, %v", op, values, out, trap, err)
			}
			return
		}
		if err != nil {
			p.t.Fatalf("%s of %v: %v", op, values, err)
		}
		next.values[w] = v
		if isTrap {
			traps++
		}
		p.agrees(w, op, values, next, trap, isTrap)
	}
	p.keep(next, traps)
}

// agrees: by Eval in that world.
func (p *game) agrees(w int, op string, values []api.Value, k known, trap api.Lit, isTrap bool) {
	p.t.Helper()
	bits, err := p.g.Eval(p.in[w], append([]api.Lit{trap}, k.lits...))
	if err != nil {
		p.t.Fatal(err)
	}
	v, err := Value(bits[1:])
	if err != nil || bits[0] != isTrap || !isTrap && v != k.values[w] {
		p.t.Fatalf("%s of %v: %v, trap %v, want %v, %v", op, values, v, bits[0], k.values[w], isTrap)
	}
}

// keep a word that is known in all worlds: where it traps it may be anything.
func (p *game) keep(k known, traps int) {
	switch traps {
	case 0:
		p.seen.made++
		p.words = append(p.words, k)
	case worlds:
		p.seen.traps++
	default:
		p.seen.partTraps++
	}
}

func play(t testing.TB, s *seen, choices []byte) {
	t.Helper()
	p := &game{t: t, g: new(graph.Graph), choices: choices, seen: s}
	for range 2 {
		p.input(api.Bool)
		p.input(api.Int)
		p.input(api.Int)
		p.constant()
	}
	for len(p.choices) > 0 {
		p.move()
	}
}

func drawn(r *rand.Rand, n int) []byte {
	l := make([]byte, n)
	r.Read(l)
	return l
}

func TestP102WordsOfWords(t *testing.T) {
	r := rand.New(rand.NewSource(102))
	s := new(seen)
	for range 1000 {
		play(t, s, drawn(r, 80+r.Intn(200)))
	}
	if s.made < 7000 || s.refused < 200 || s.traps < 20 || s.partTraps < 100 {
		t.Errorf("only %+v", *s)
	}
}

func FuzzOf(f *testing.F) {
	r := rand.New(rand.NewSource(103))
	f.Add(drawn(r, 60))
	f.Add(drawn(r, 300))
	f.Fuzz(func(t *testing.T, choices []byte) {
		if len(choices) < 500 {
			play(t, new(seen), choices)
		}
	})
}
