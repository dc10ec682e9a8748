package hold

import (
	"math/rand"
	"slices"
	"testing"

	"lustrum/api"
	"lustrum/graph"
)

// randomGraph of so many inputs, and more gates.
func randomGraph(t testing.TB, r *rand.Rand, inputs, more int) (*graph.Graph, []api.Lit) {
	t.Helper()
	g := new(graph.Graph)
	var in []api.Lit
	some := func() api.Lit { return api.Lit(r.Intn(2 * g.Gates())) }
	for range inputs {
		for range r.Intn(1 + more/(inputs+1)) {
			if _, err := g.And(some(), some()); err != nil {
				t.Fatal(err)
			}
		}
		x, err := g.Input()
		if err != nil {
			t.Fatal(err)
		}
		in = append(in, x)
	}
	for range more {
		if _, err := g.Xor(some(), some()); err != nil {
			t.Fatal(err)
		}
	}
	return g, in
}

// can all roots hold? All inputs are tried, one way at a time.
func can(t testing.TB, g *graph.Graph, roots []api.Lit) bool {
	t.Helper()
	in := make([]bool, g.Inputs())
	for n := range 1 << g.Inputs() {
		for i := range in {
			in[i] = n>>i&1 == 1
		}
		l, err := g.Eval(in, roots)
		if err != nil {
			t.Fatal(err)
		}
		if !slices.Contains(l, false) {
			return true
		}
	}
	return false
}

// tried are all that inputs may be, until all roots hold.
func tried(t testing.TB, g *graph.Graph, roots, in []api.Lit) ([]bool, bool) {
	t.Helper()
	needed, err := g.Needs(roots)
	if err != nil {
		t.Fatal(err)
	}
	return newWays(g, roots, needed).tryAll(in)
}

func TestTryAll(t *testing.T) {
	r := rand.New(rand.NewSource(64))
	yes, no := 0, 0
	for range 600 {
		g, in := randomGraph(t, r, r.Intn(12), r.Intn(30))
		var roots []api.Lit
		for range r.Intn(9) {
			roots = append(roots, api.Lit(r.Intn(2*g.Gates())))
		}
		values, ok := tried(t, g, roots, in)
		if ok != can(t, g, roots) || !ok && len(values) > 0 {
			t.Fatalf("%v of %d gates: %v, %v", roots, g.Gates(), values, ok)
		}
		if !ok {
			no++
			continue
		}
		yes++
		if l, err := g.Eval(values, roots); err != nil || slices.Contains(l, false) {
			t.Fatalf("%v of %d gates: %v do not do", roots, g.Gates(), values)
		}
	}
	if yes < 100 || no < 100 {
		t.Errorf("only %d, %d", yes, no)
	}
}

// TestTryAllOnce: what holds at one way of the inputs alone is found, wherever it is.
func TestTryAllOnce(t *testing.T) {
	r := rand.New(rand.NewSource(65))
	for inputs := range 18 {
		g, in := randomGraph(t, r, inputs, 0)
		for range 5 {
			all, err := api.Lit(1), error(nil)
			want := make([]bool, inputs)
			for _, n := range r.Perm(inputs) {
				x := in[n] ^ api.Lit(r.Intn(2))
				want[n] = x == in[n]
				if all, err = g.And(all, x); err != nil {
					t.Fatal(err)
				}
			}
			for _, roots := range [][]api.Lit{{all}, {1, all, all}} {
				if got, ok := tried(t, g, roots, in); !ok || !slices.Equal(got, want) {
					t.Errorf("%v, %v, want %v", got, ok, want)
				}
			}
			for _, roots := range [][]api.Lit{{0}, {all, graph.Not(all)}, {all, 0, 1}} {
				if got, ok := tried(t, g, roots, in); ok || len(got) > 0 {
					t.Errorf("%v: %v", roots, got)
				}
			}
		}
	}
}
