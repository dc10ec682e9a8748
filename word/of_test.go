package word

import (
	"slices"
	"testing"

	"lustrum/api"
	"lustrum/flow"
	"lustrum/graph"
)

// TestP102Ints: of all ints.
func TestP102Ints(t *testing.T) {
	for _, op := range ofInts() {
		t.Run(op, func(t *testing.T) {
			t.Parallel()
			g := new(graph.Graph)
			a, b := inputs(t, g, 8), inputs(t, g, 8)
			out, trap := of(t, g, op, a, b)
			l := tablesOf(t, g)
			for n := range 1 << 16 {
				l.comesTo(t, op, out, trap, n, low(n), low(n>>8))
			}
		})
	}
}

// TestP102Constants: of all ints they come to constants, and need no gates.
func TestP102Constants(t *testing.T) {
	for _, op := range ofInts() {
		t.Run(op, func(t *testing.T) {
			t.Parallel()
			g := new(graph.Graph)
			for a := -128; a < 128; a++ {
				for _, b := range edges() {
					out, trap := of(t, g, op, constant(t, a), constant(t, b))
					tablesOf(t, g).comesTo(t, op, out, trap, 0, whole(a), whole(b))
					out, trap = of(t, g, op, constant(t, b), constant(t, a))
					tablesOf(t, g).comesTo(t, op, out, trap, 0, whole(b), whole(a))
				}
			}
			if g.Gates() != 1 {
				t.Error(g.Gates())
			}
		})
	}
}

// TestP102OneConstant: of all ints, and constants on either side.
func TestP102OneConstant(t *testing.T) {
	for _, op := range ofInts() {
		t.Run(op, func(t *testing.T) {
			t.Parallel()
			for _, c := range edges() {
				g := new(graph.Graph)
				a := inputs(t, g, 8)
				ahead, aheadTrap := of(t, g, op, constant(t, c), a)
				behind, behindTrap := of(t, g, op, a, constant(t, c))
				l := tablesOf(t, g)
				for n := range 256 {
					l.comesTo(t, op, ahead, aheadTrap, n, whole(c), low(n))
					l.comesTo(t, op, behind, behindTrap, n, low(n), whole(c))
				}
			}
		})
	}
}

// TestP102OneWord: of a word and itself, turned, moved, with bits that are known, and with one bit all over.
func TestP102OneWord(t *testing.T) {
	for _, op := range ofInts() {
		t.Run(op, func(t *testing.T) {
			t.Parallel()
			g := new(graph.Graph)
			a := inputs(t, g, 8)
			c, d := make([]api.Lit, 8), make([]api.Lit, 8)
			for i, x := range a {
				c[i] = x ^ 1
				d[i] = a[3]
			}
			l := [][]api.Lit{a, c, d, slices.Concat(a[1:], a[:1]), slices.Concat(a[:3], []api.Lit{0, 0, 0, 0, 0}), slices.Concat([]api.Lit{1, 0}, a[2:7], []api.Lit{1})}
			for _, v := range l {
				for _, w := range l {
					out, trap := of(t, g, op, v, w)
					all := tablesOf(t, g)
					for n := range 256 {
						all.comesTo(t, op, out, trap, n, all.value(t, v, n), all.value(t, w, n))
					}
				}
			}
		})
	}
}

func TestP102Neg(t *testing.T) {
	g := new(graph.Graph)
	a := inputs(t, g, 8)
	out, trap := of(t, g, "neg", a)
	l := tablesOf(t, g)
	for n := range 256 {
		l.comesTo(t, "neg", out, trap, n, low(n))
		known, trap := of(t, g, "neg", constant(t, int(int8(n))))
		l.comesTo(t, "neg", known, trap, 0, low(n))
	}
}

// truths are literals of a bool each: constants, inputs, turned ones.
func truths(t testing.TB, g *graph.Graph) [][]api.Lit {
	l := inputs(t, g, 3)
	return [][]api.Lit{{0}, {1}, {l[0]}, {l[0] ^ 1}, {l[1]}, {l[1] ^ 1}, {l[2]}}
}

func TestP102Bools(t *testing.T) {
	g := new(graph.Graph)
	all := truths(t, g)
	for _, a := range all {
		out, trap := of(t, g, "not", a)
		l := tablesOf(t, g)
		for n := range 8 {
			l.comesTo(t, "not", out, trap, n, l.value(t, a, n))
		}
		for _, b := range all {
			for _, op := range append(ofBools(), "=", "<>") {
				out, trap := of(t, g, op, a, b)
				l := tablesOf(t, g)
				for n := range 8 {
					l.comesTo(t, op, out, trap, n, l.value(t, a, n), l.value(t, b, n))
				}
			}
		}
	}
}

// TestP102If: of bools, and of ints.
func TestP102If(t *testing.T) {
	g := new(graph.Graph)
	all := truths(t, g)
	v := inputs(t, g, 8)
	ints := words(v, constant(t, -77), constant(t, 0), slices.Concat(v[4:], []api.Lit{1, all[2][0], 0, all[3][0]}))
	for _, c := range all {
		for _, l := range [][][]api.Lit{all, ints} {
			for _, a := range l {
				for _, b := range l {
					out, trap := of(t, g, "if", c, a, b)
					now := tablesOf(t, g)
					for n := 0; n < 1<<11; n += 7 {
						now.comesTo(t, "if", out, trap, n, now.value(t, c, n), now.value(t, a, n), now.value(t, b, n))
					}
				}
			}
		}
	}
}

// TestP102Known: at what the document names, by Eval.
func TestP102Known(t *testing.T) {
	for _, c := range []struct {
		op      string
		a, b, n int
		trap    bool
	}{
		{"+", 127, 1, -128, false},
		{"-", -128, 1, 127, false},
		{"*", -128, -1, -128, false},
		{"*", 100, 3, 44, false},
		{"/", -7, 2, -3, false},
		{"/", 7, -2, -3, false},
		{"mod", -7, 2, -1, false},
		{"mod", 7, -2, 1, false},
		{"/", -128, -1, -128, false},
		{"mod", -128, -1, 0, false},
		{"/", -128, 0, 0, true},
		{"mod", 0, 0, 0, true},
		{"/", 0, 0, 0, true},
		{"mod", 127, 0, 0, true},
	} {
		g := new(graph.Graph)
		out, trap := of(t, g, c.op, inputs(t, g, 8), inputs(t, g, 8))
		a, _ := Bits(whole(c.a))
		b, _ := Bits(whole(c.b))
		l, err := g.Eval(append(a, b...), append(out, trap))
		if err != nil {
			t.Fatal(err)
		}
		v, err := Value(l[:8])
		if l[8] != c.trap || err != nil || !c.trap && v != whole(c.n) {
			t.Errorf("%d %s %d: %v, %v, %v", c.a, c.op, c.b, v, l[8], err)
		}
	}
}

// TestP100Trap: that what is divided by is 0 has the literal that = of it and 0 has.
func TestP100Trap(t *testing.T) {
	g := new(graph.Graph)
	a, b := inputs(t, g, 8), inputs(t, g, 8)
	zero, _ := of(t, g, "=", b, constant(t, 0))
	for _, op := range []string{"/", "mod"} {
		if _, trap := of(t, g, op, a, b); trap != zero[0] {
			t.Errorf("%s: %d, want %d", op, trap, zero[0])
		}
		for _, c := range edges() {
			want := api.Lit(0)
			if c == 0 {
				want = 1
			}
			if _, trap := of(t, g, op, a, constant(t, c)); trap != want {
				t.Errorf("%s by %d: %d", op, c, trap)
			}
		}
	}
}

// lengthsOf lists, with those that values have, and those beside them.
func lengthsOf(many int) [][]int {
	all := [][]int{{}}
	for range many {
		var more [][]int
		for _, l := range all {
			for _, n := range []int{0, 1, 2, 7, 8, 9} {
				more = append(more, append(slices.Clone(l), n))
			}
		}
		all = more
	}
	return all
}

// valuesOf lists of these lengths; false: there are none.
func valuesOf(lengths []int) ([]api.Value, bool) {
	var l []api.Value
	for _, n := range lengths {
		switch n {
		case 1:
			l = append(l, bit(1))
		case 8:
			l = append(l, whole(1))
		default:
			return nil, false
		}
	}
	return l, true
}

// TestP100Shape: just what flow.Apply takes is taken, of all operators, and what is none, and of all lengths.
func TestP100Shape(t *testing.T) {
	taken := 0
	for _, op := range append(operators(), noOperators()...) {
		for many := range 5 {
			for _, lengths := range lengthsOf(many) {
				g := new(graph.Graph)
				l := make([][]api.Lit, many)
				for i, n := range lengths {
					l[i] = inputs(t, g, n)
				}
				gates := g.Gates()
				values, ok := valuesOf(lengths)
				want, _, err := flow.Apply(op, values)
				if !ok || err != nil {
					refusedWith(t, g, op, l, api.ErrShape)
					if g.Gates() != gates {
						t.Errorf("%q of %v: %d gates more", op, lengths, g.Gates()-gates)
					}
					continue
				}
				taken++
				out, _ := of(t, g, op, l...)
				if got := valueOf(len(out)); got != want.Kind {
					t.Errorf("%q of %v: %v", op, lengths, out)
				}
			}
		}
	}
	if want := len(ofInts()) + len(ofBools()) + 2 + 2 + 2; taken != want {
		t.Errorf("%d are taken, want %d", taken, want)
	}
}

func valueOf(length int) int {
	switch length {
	case 1:
		return api.Bool
	case 8:
		return api.Int
	}
	return 0
}

// TestP1Nothing: of lists that are nil, or many, or long.
func TestP1Nothing(t *testing.T) {
	g := new(graph.Graph)
	for _, op := range append(operators(), noOperators()...) {
		refusedWith(t, g, op, nil, api.ErrShape)
		refusedWith(t, g, op, [][]api.Lit{}, api.ErrShape)
		for _, n := range []int{1, 2, 3, 4, 1000} {
			refusedWith(t, g, op, make([][]api.Lit, n), api.ErrShape)
		}
		long := make([]api.Lit, 1<<16)
		refusedWith(t, g, op, words(long), api.ErrShape)
		refusedWith(t, g, op, words(long, long), api.ErrShape)
		refusedWith(t, g, op, words([]api.Lit{1}, long, long), api.ErrShape)
	}
	if g.Gates() != 1 {
		t.Error(g.Gates())
	}
}
