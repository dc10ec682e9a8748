package graph

import (
	"math"
	"slices"
	"testing"

	"lustrum/api"
)

// withInputs is a graph of so many inputs, in literals 2, 4, ..
func withInputs(t testing.TB, n int) *Graph {
	t.Helper()
	g := new(Graph)
	for i := range n {
		x, err := g.Input()
		if x != api.Lit(2*i+2) || err != nil {
			t.Fatal(i, x, err)
		}
	}
	return g
}

// came out as wanted.
func came(t testing.TB, x api.Lit, err error, want api.Lit) {
	t.Helper()
	if x != want || err != nil {
		t.Errorf("%d, %v, want %d", x, err, want)
	}
}

// refused with such an error, and with nothing else.
func refused(t testing.TB, x api.Lit, err, want error) {
	t.Helper()
	if x != 0 || err != want {
		t.Errorf("%d, %v, want %v", x, err, want)
	}
}

func counted(t testing.TB, g *Graph, gates, inputs int) {
	t.Helper()
	if g.Gates() != gates || g.Inputs() != inputs {
		t.Errorf("%d gates, %d inputs, want %d, %d", g.Gates(), g.Inputs(), gates, inputs)
	}
}

// hasGates: from some gate on, just those of these parts.
func hasGates(t testing.TB, g *Graph, from int, l ...pair) {
	t.Helper()
	if g.Gates() != from+len(l) {
		t.Errorf("%d gates, want %d", g.Gates(), from+len(l))
	}
	for i, p := range l {
		if a, b, input, err := g.Parts(from + i); a != p[0] || b != p[1] || input || err != nil {
			t.Errorf("gate %d: %d, %d, %v, %v, want %v", from+i, a, b, input, err, p)
		}
	}
}

// worked out for such inputs: literals that hold, and others that do not.
func worked(t testing.TB, g *Graph, in []bool, l []api.Lit, want []bool) {
	t.Helper()
	if got, err := g.Eval(in, l); !slices.Equal(got, want) || err != nil {
		t.Errorf("%v of %v: %v, %v, want %v", l, in, got, err, want)
	}
}

// strangers to a graph.
func strangers(g *Graph) []api.Lit {
	beyond := api.Lit(2 * g.Gates())
	return []api.Lit{-1, -2, -3, beyond, beyond + 1, beyond + 2, 2 * api.MaxGates, math.MaxInt32, math.MaxInt, math.MaxInt - 1, math.MinInt, math.MinInt + 1}
}

func TestP90Zero(t *testing.T) {
	var g Graph
	counted(t, &g, 1, 0)
	for _, a := range []api.Lit{0, 1} {
		for _, b := range []api.Lit{0, 1} {
			x, err := g.And(a, b)
			came(t, x, err, a&b)
		}
	}
	counted(t, &g, 1, 0)
	for _, x := range strangers(&g) {
		y, err := g.And(x, 1)
		refused(t, y, err, api.ErrShape)
	}
	worked(t, &g, nil, []api.Lit{0, 1}, []bool{false, true})
}

func TestP90Input(t *testing.T) {
	g := withInputs(t, 2)
	counted(t, g, 3, 2)
	x, err := g.And(2, 4)
	came(t, x, err, 6)
	x, err = g.Input()
	came(t, x, err, 8)
	counted(t, g, 5, 3)
}

// TestP90Example: that of the document.
func TestP90Example(t *testing.T) {
	g := withInputs(t, 3)
	x, err := g.And(4, 6)
	came(t, x, err, 8)
	x, err = g.And(6, 4)
	came(t, x, err, 8)
	hasGates(t, g, 4, pair{4, 6})
}

func TestP90And(t *testing.T) {
	g := withInputs(t, 3)
	for i, c := range []struct{ a, b, want api.Lit }{
		{2, 4, 8}, {4, 2, 8},
		// turned ones are others
		{3, 4, 10}, {2, 5, 12}, {3, 5, 14}, {5, 3, 14}, {4, 3, 10}, {5, 2, 12}, {2, 4, 8},
		// of gates of which one is of the other one's parts
		{8, 2, 16}, {8, 3, 18}, {9, 2, 20}, {2, 8, 16}, {8, 10, 22}, {6, 9, 24}, {9, 6, 24},
	} {
		x, err := g.And(c.a, c.b)
		if x != c.want || err != nil {
			t.Errorf("%d: %d, %v, want %d", i, x, err, c.want)
		}
	}
	hasGates(t, g, 4, pair{2, 4}, pair{3, 4}, pair{2, 5}, pair{3, 5}, pair{2, 8}, pair{3, 8}, pair{2, 9}, pair{8, 10}, pair{6, 9})
	counted(t, g, 13, 3)
}

// TestP90NoGate: what comes to one of its literals, or to false, makes no gate.
func TestP90NoGate(t *testing.T) {
	g := withInputs(t, 2)
	if x, err := g.And(2, 4); x != 6 || err != nil {
		t.Fatal(x, err)
	}
	for a := range api.Lit(8) {
		for _, c := range []struct{ b, want api.Lit }{{0, 0}, {1, a}, {a, a}, {a ^ 1, 0}} {
			x, err := g.And(a, c.b)
			came(t, x, err, c.want)
			x, err = g.And(c.b, a)
			came(t, x, err, c.want)
		}
	}
	counted(t, g, 4, 2)
}

// TestP90Shape: also where the other literal would settle it; and nothing is changed.
func TestP90Shape(t *testing.T) {
	g := withInputs(t, 2)
	for _, bad := range strangers(g) {
		for a := range api.Lit(6) {
			x, err := g.And(a, bad)
			refused(t, x, err, api.ErrShape)
			x, err = g.And(bad, a)
			refused(t, x, err, api.ErrShape)
		}
		for _, other := range []api.Lit{bad, bad ^ 1} {
			x, err := g.And(bad, other)
			refused(t, x, err, api.ErrShape)
		}
	}
	counted(t, g, 3, 2)
	x, err := g.And(5, 5)
	came(t, x, err, 5)
	x, err = g.And(2, 4)
	came(t, x, err, 6)
	x, err = g.And(7, 4)
	came(t, x, err, 8)
}

func TestP91Not(t *testing.T) {
	for _, c := range [][2]api.Lit{{0, 1}, {2, 3}, {6, 7}, {199998, 199999}, {-2, -1}, {math.MaxInt - 1, math.MaxInt}, {math.MinInt, math.MinInt + 1}} {
		if Not(c[0]) != c[1] || Not(c[1]) != c[0] {
			t.Errorf("%v: %d, %d", c, Not(c[0]), Not(c[1]))
		}
	}
}

func TestP91Or(t *testing.T) {
	g := withInputs(t, 2)
	for _, c := range []struct{ a, b, want api.Lit }{
		{2, 4, 7}, {4, 2, 7}, {3, 5, 9}, {2, 5, 11}, {5, 2, 11}, {7, 2, 13},
		{2, 0, 2}, {0, 3, 3}, {2, 1, 1}, {1, 3, 1}, {4, 4, 4}, {4, 5, 1}, {0, 0, 0}, {0, 1, 1}, {1, 1, 1},
	} {
		x, err := g.Or(c.a, c.b)
		came(t, x, err, c.want)
	}
	hasGates(t, g, 3, pair{3, 5}, pair{2, 4}, pair{3, 4}, pair{3, 6})
}

// TestP91Xor: gates are made in the order in which they are told.
func TestP91Xor(t *testing.T) {
	g := withInputs(t, 2)
	x, err := g.Xor(2, 4)
	came(t, x, err, 11)
	hasGates(t, g, 3, pair{2, 5}, pair{3, 4}, pair{7, 9})
	g = withInputs(t, 2)
	x, err = g.Xor(4, 2)
	came(t, x, err, 11)
	hasGates(t, g, 3, pair{3, 4}, pair{2, 5}, pair{7, 9})
	x, err = g.Xor(2, 4)
	came(t, x, err, 11)
	x, err = g.Xor(3, 4)
	came(t, x, err, 17)
	hasGates(t, g, 3, pair{3, 4}, pair{2, 5}, pair{7, 9}, pair{3, 5}, pair{2, 4}, pair{13, 15})
}

func TestP91XorNoGate(t *testing.T) {
	g := withInputs(t, 1)
	for a := range api.Lit(4) {
		for _, c := range []struct{ b, want api.Lit }{{0, a}, {1, a ^ 1}, {a, 0}, {a ^ 1, 1}} {
			x, err := g.Xor(a, c.b)
			came(t, x, err, c.want)
			x, err = g.Xor(c.b, a)
			came(t, x, err, c.want)
		}
	}
	counted(t, g, 2, 1)
}

func TestP91If(t *testing.T) {
	g := withInputs(t, 3)
	x, err := g.If(2, 4, 6)
	came(t, x, err, 13)
	hasGates(t, g, 4, pair{2, 4}, pair{3, 6}, pair{9, 11})
	x, err = g.If(2, 4, 6)
	came(t, x, err, 13)
	// turned, and the other way around, it has the same gates
	x, err = g.If(3, 6, 4)
	came(t, x, err, 13)
	counted(t, g, 7, 3)
	g = withInputs(t, 3)
	x, err = g.If(3, 6, 4)
	came(t, x, err, 13)
	hasGates(t, g, 4, pair{3, 6}, pair{2, 4}, pair{9, 11})
}

// TestP91IfEdges: only what And of two literals comes to is made less of, so that of two like ones there still are gates.
func TestP91IfEdges(t *testing.T) {
	for _, c := range []struct {
		c, a, b, want api.Lit
		made          []pair
	}{
		{0, 2, 4, 4, nil}, {1, 2, 4, 2, nil}, {2, 1, 0, 2, nil}, {2, 0, 1, 3, nil}, {2, 0, 0, 0, nil}, {2, 1, 1, 1, nil}, {0, 0, 1, 1, nil}, {1, 0, 1, 0, nil},
		{2, 2, 3, 1, nil}, {2, 3, 2, 0, nil}, {2, 2, 2, 2, nil},
		{2, 4, 4, 11, []pair{{2, 4}, {3, 4}, {7, 9}}},
		{2, 4, 5, 11, []pair{{2, 4}, {3, 5}, {7, 9}}},
		{2, 2, 4, 9, []pair{{3, 4}, {3, 7}}},
		{2, 4, 0, 6, []pair{{2, 4}}}, {2, 0, 4, 6, []pair{{3, 4}}},
		{2, 4, 1, 9, []pair{{2, 4}, {2, 7}}}, {2, 1, 4, 9, []pair{{3, 4}, {3, 7}}},
	} {
		g := withInputs(t, 2)
		x, err := g.If(c.c, c.a, c.b)
		came(t, x, err, c.want)
		hasGates(t, g, 3, c.made...)
	}
}

// TestP91Shape: what is none of the graph's leaves nothing behind, wherever it stands.
func TestP91Shape(t *testing.T) {
	g := withInputs(t, 3)
	for _, bad := range strangers(g) {
		for _, a := range []api.Lit{0, 1, 2, 5, bad} {
			for _, l := range [][2]api.Lit{{a, bad}, {bad, a}} {
				x, err := g.Or(l[0], l[1])
				refused(t, x, err, api.ErrShape)
				x, err = g.Xor(l[0], l[1])
				refused(t, x, err, api.ErrShape)
				for _, b := range []api.Lit{0, 1, 6} {
					x, err = g.If(b, l[0], l[1])
					refused(t, x, err, api.ErrShape)
					x, err = g.If(l[0], l[1], b)
					refused(t, x, err, api.ErrShape)
				}
			}
		}
	}
	counted(t, g, 4, 3)
	x, err := g.And(2, 4)
	came(t, x, err, 8)
}

func TestP92Parts(t *testing.T) {
	g := withInputs(t, 1)
	if x, err := g.And(2, 1); x != 2 || err != nil {
		t.Fatal(x, err)
	}
	if x, err := g.Input(); x != 4 || err != nil {
		t.Fatal(x, err)
	}
	if x, err := g.And(5, 3); x != 6 || err != nil {
		t.Fatal(x, err)
	}
	if x, err := g.Input(); x != 8 || err != nil {
		t.Fatal(x, err)
	}
	for n, want := range []struct {
		a, b  api.Lit
		input bool
		err   error
	}{{err: api.ErrNone}, {input: true}, {input: true}, {3, 5, false, nil}, {input: true}, {err: api.ErrNone}} {
		if a, b, input, err := g.Parts(n); a != want.a || b != want.b || input != want.input || err != want.err {
			t.Errorf("gate %d: %d, %d, %v, %v, want %v", n, a, b, input, err, want)
		}
	}
}

func TestP92NoParts(t *testing.T) {
	none := func(g *Graph, l ...int) {
		t.Helper()
		for _, n := range l {
			if a, b, input, err := g.Parts(n); a != 0 || b != 0 || input || err != api.ErrNone {
				t.Errorf("gate %d: %d, %d, %v, %v", n, a, b, input, err)
			}
		}
	}
	none(new(Graph), 0, 1, 2, -1)
	none(withInputs(t, 3), 0, -1, -2, 4, 5, api.MaxGates, math.MaxInt, math.MinInt)
}

// TestP92Eval: inputs are taken in the order in which they came, whatever stands between them; literals may be there more than once.
func TestP92Eval(t *testing.T) {
	g := withInputs(t, 2)
	if x, err := g.And(2, 5); x != 6 || err != nil {
		t.Fatal(x, err)
	}
	if x, err := g.Input(); x != 8 || err != nil {
		t.Fatal(x, err)
	}
	if x, err := g.And(7, 9); x != 10 || err != nil {
		t.Fatal(x, err)
	}
	for n := range 8 {
		a, b, c := n&1 == 1, n&2 == 2, n&4 == 4
		all := []api.Lit{10, 0, 1, 2, 3, 4, 5, 6, 7, 8, 9, 10, 11, 2, 2}
		last := !(a && !b) && !c
		worked(t, g, []bool{a, b, c}, all, []bool{last, false, true, a, !a, b, !b, a && !b, !(a && !b), c, !c, last, !last, a, a})
		worked(t, g, []bool{a, b, c}, nil, nil)
	}
}

func TestP92EvalShape(t *testing.T) {
	none := func(g *Graph, in []bool, l ...api.Lit) {
		t.Helper()
		if got, err := g.Eval(in, l); len(got) != 0 || err != api.ErrShape {
			t.Errorf("%v of %v: %v, %v", l, in, got, err)
		}
	}
	g := new(Graph)
	none(g, []bool{false}, 0)
	none(g, []bool{true})
	none(g, nil, 2)
	g = withInputs(t, 2)
	if x, err := g.And(2, 4); x != 6 || err != nil {
		t.Fatal(x, err)
	}
	for _, in := range [][]bool{nil, {}, {true}, {true, true, true}, make([]bool, 100)} {
		none(g, in)
		none(g, in, 2, 6)
		none(g, in, -1)
	}
	for _, bad := range strangers(g) {
		none(g, []bool{true, true}, bad)
		none(g, []bool{true, true}, 2, 6, bad)
		none(g, []bool{true, true}, bad, 0)
	}
	worked(t, g, []bool{true, true}, []api.Lit{6}, []bool{true})
}
