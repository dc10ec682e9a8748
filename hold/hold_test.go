package hold

import (
	"math/rand"
	"slices"
	"testing"

	"lustrum/api"
	"lustrum/graph"
)

// TestSearch: it tells whether roots can hold; what it finds are values with which they do.
func TestSearch(t *testing.T) {
	r := rand.New(rand.NewSource(70))
	kinds := map[string]int{}
	for range 600 {
		g, in := randomGraph(t, r, r.Intn(10), r.Intn(30))
		var roots []api.Lit
		for range r.Intn(9) {
			roots = append(roots, api.Lit(r.Intn(2*g.Gates())))
		}
		want := can(t, g, roots)
		for _, effort := range []int{api.MaxEffort, 2, 0} {
			a, err := Search(g, roots, effort)
			kinds[a.Kind]++
			if err != nil || a.Kind == Tired && effort > 2 || a.Kind != Tired && (a.Kind == Yes) != want {
				t.Fatalf("%v: %v, %v, want %v", roots, a, err, want)
			}
			if a.Kind == Yes {
				hold(t, g, roots, a.Bits(in))
			}
			bits, ok, err := Decide(g, roots, in, effort)
			if ok != want || err != nil || !ok && len(bits) > 0 {
				t.Fatalf("%v: %v, %v, want %v", roots, ok, err, want)
			}
			if ok {
				hold(t, g, roots, bits)
			}
		}
	}
	if kinds[Yes] < 300 || kinds[No] < 300 || kinds[Tired] < 3 {
		t.Errorf("only %v", kinds)
	}
}

// hold roots, inputs being so?
func hold(t testing.TB, g *graph.Graph, roots []api.Lit, in []bool) {
	t.Helper()
	if l, err := g.Eval(in, roots); err != nil || slices.Contains(l, false) {
		t.Fatalf("%v do not hold by %v: %v", roots, in, err)
	}
}

// TestDecide: of inputs that are many, of which a search tires.
func TestDecide(t *testing.T) {
	r := rand.New(rand.NewSource(71))
	g, in := randomGraph(t, r, 20, 0)
	parity := func() api.Lit {
		x := api.Lit(0)
		for _, n := range r.Perm(len(in)) {
			var err error
			if x, err = g.Xor(x, in[n]); err != nil {
				t.Fatal(err)
			}
		}
		return x
	}
	a, b, c := parity(), parity(), parity()
	for _, roots := range [][]api.Lit{{a, graph.Not(b)}, {graph.Not(a), b, c}} {
		if x, err := Search(g, roots, 100); x.Kind != Tired || err != nil {
			t.Fatal(x.Kind, err)
		}
		for _, effort := range []int{0, 100, api.MaxEffort} {
			if bits, ok, err := Decide(g, roots, in, effort); ok || len(bits) > 0 || err != nil {
				t.Error(bits, ok, err)
			}
		}
	}
	bits, ok, err := Decide(g, []api.Lit{a, b, c, graph.Not(in[3]), in[7]}, in, 0)
	if !ok || err != nil || bits[3] || !bits[7] {
		t.Fatal(bits, ok, err)
	}
	hold(t, g, []api.Lit{a, b, c}, bits)
}

func TestErrors(t *testing.T) {
	g, in := randomGraph(t, rand.New(rand.NewSource(72)), 3, 4)
	more := api.Lit(2 * g.Gates())
	for _, bad := range []api.Lit{-1, more, more + 5} {
		if a, err := Search(g, []api.Lit{in[0], bad}, 9); err != api.ErrShape || a.Kind != "" {
			t.Error(a, err)
		}
		if bits, ok, err := Decide(g, []api.Lit{in[0], bad}, in, 9); err != api.ErrShape || ok || len(bits) > 0 {
			t.Error(bits, ok, err)
		}
		if bits, ok, err := Decide(g, in, []api.Lit{in[0], bad}, 9); err != api.ErrShape || ok || len(bits) > 0 {
			t.Error(bits, ok, err)
		}
		if x, err := All(g, []api.Lit{in[0], bad}); err != api.ErrShape || x != 0 {
			t.Error(x, err)
		}
	}
	for _, effort := range []int{-1, api.MaxEffort + 1} {
		if a, err := Search(g, in, effort); err != api.ErrBound || a.Kind != "" {
			t.Error(a, err)
		}
	}
	if _, ok, err := Decide(g, in, in, -1); err != api.ErrBound || ok {
		t.Error(ok, err)
	}
}

// TestAlike: literals that hold together just where others have such bits.
func TestAlike(t *testing.T) {
	g, in := randomGraph(t, rand.New(rand.NewSource(73)), 3, 0)
	l := []api.Lit{in[0], graph.Not(in[1]), in[2], 0, 1}
	for _, bits := range [][]bool{{true, true, true, false, true}, {false, true, false, false, true}, {false, false, true, false, true}, {true, true, true, true, true}, {true, true, true, false, false}} {
		before := slices.Clone(l)
		x, err := All(g, Alike(l, bits))
		if err != nil || !slices.Equal(l, before) {
			t.Fatal(l, err)
		}
		for n := range 8 {
			values, err := g.Eval([]bool{n&1 > 0, n&2 > 0, n&4 > 0}, append(slices.Clone(l), x))
			if err != nil || values[len(l)] != slices.Equal(values[:len(l)], bits) {
				t.Errorf("%v at %d: %v, %v", bits, n, values, err)
			}
		}
	}
	if x, err := All(g, nil); x != 1 || err != nil {
		t.Error(x, err)
	}
}
