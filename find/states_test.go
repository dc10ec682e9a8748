package find

import (
	"math/rand"
	"slices"
	"testing"

	"lustrum/api"
	"lustrum/graph"
)

// randomGraph of so many inputs, and more gates.
func randomGraph(t testing.TB, r *rand.Rand, inputs, more int) (*graph.Graph, []api.Lit) {
	t.Helper()
	g := new(graph.Graph)
	var in []api.Lit
	some := func() api.Lit { return api.Lit(r.Intn(2 * g.Gates())) }
	for range inputs {
		for range r.Intn(1 + more/(inputs+1)) {
			if _, err := g.And(some(), some()); err != nil {
				t.Fatal(err)
			}
		}
		x, err := g.Input()
		if err != nil {
			t.Fatal(err)
		}
		in = append(in, x)
	}
	for range more {
		if _, err := g.Xor(some(), some()); err != nil {
			t.Fatal(err)
		}
	}
	return g, in
}

// can all roots hold? All inputs are tried, one way at a time.
func can(t testing.TB, g *graph.Graph, roots []api.Lit) bool {
	t.Helper()
	in := make([]bool, g.Inputs())
	for n := range 1 << g.Inputs() {
		for i := range in {
			in[i] = n>>i&1 == 1
		}
		l, err := g.Eval(in, roots)
		if err != nil {
			t.Fatal(err)
		}
		if !slices.Contains(l, false) {
			return true
		}
	}
	return false
}

func TestTryAll(t *testing.T) {
	r := rand.New(rand.NewSource(64))
	yes, no := 0, 0
	for range 600 {
		g, in := randomGraph(t, r, r.Intn(12), r.Intn(30))
		var roots []api.Lit
		for range r.Intn(9) {
			roots = append(roots, api.Lit(r.Intn(2*g.Gates())))
		}
		values, ok := tryAll(g, roots, in)
		if ok != can(t, g, roots) || !ok && len(values) > 0 {
			t.Fatalf("%v of %d gates: %v, %v", roots, g.Gates(), values, ok)
		}
		if !ok {
			no++
			continue
		}
		yes++
		if l, err := g.Eval(values, roots); err != nil || slices.Contains(l, false) {
			t.Fatalf("%v of %d gates: %v do not do", roots, g.Gates(), values)
		}
	}
	if yes < 100 || no < 100 {
		t.Errorf("only %d, %d", yes, no)
	}
}

// TestTryAllOnce: what holds at one way of the inputs alone is found, wherever it is.
func TestTryAllOnce(t *testing.T) {
	r := rand.New(rand.NewSource(65))
	for inputs := range 18 {
		g, in := randomGraph(t, r, inputs, 0)
		for range 5 {
			all, err := api.Lit(1), error(nil)
			want := make([]bool, inputs)
			for _, n := range r.Perm(inputs) {
				x := in[n] ^ api.Lit(r.Intn(2))
				want[n] = x == in[n]
				if all, err = g.And(all, x); err != nil {
					t.Fatal(err)
				}
			}
			for _, roots := range [][]api.Lit{{all}, {1, all, all}} {
				if got, ok := tryAll(g, roots, in); !ok || !slices.Equal(got, want) {
					t.Errorf("%v, %v, want %v", got, ok, want)
				}
			}
			for _, roots := range [][]api.Lit{{0}, {all, graph.Not(all)}, {all, 0, 1}} {
				if got, ok := tryAll(g, roots, in); ok || len(got) > 0 {
					t.Errorf("%v: %v", roots, got)
				}
			}
		}
	}
}

// TestBothWays: a program of few states is searched by instants, by states, and by states where each search tires; all tell the same.
func TestBothWays(t *testing.T) {
	r := rand.New(rand.NewSource(66))
	found := [14]int{}
	for range 400 {
		d := drawer{drawn(r, 300)}
		p := d.bools(t)
		depth := r.Intn(14)
		for c := range p.Checks {
			want := newSearch(p, c, api.MaxEffort-1).run(depth)
			if want.Kind == "tired" {
				t.Fatalf("%s%v", text(t, p), want)
			}
			holds(t, p, c, want, len(want.Trace))
			for _, effort := range []int{0, 1, api.MaxEffort} {
				holds(t, p, c, newSearch(p, c, effort).byStates(depth), len(want.Trace))
			}
			found[len(want.Trace)]++
		}
	}
	if found[0] < 100 || found[1] < 50 || found[2] < 20 || found[3] < 10 || found[4] < 2 {
		t.Errorf("only %v", found)
	}
}

// TestManyWays: a search tires of the inputs, which are many, so that all of them must be tried.
func TestManyWays(t *testing.T) {
	p := parities(t, 2, 20)
	for _, effort := range []int{0, 10} {
		holds(t, p, 0, newSearch(p, 0, effort).byStates(12), 0)
	}
	p.Checks[0] = op("and", p.Checks[0], op("not", op("and", name("m1"), op("fby", op("false"), name("m0")))))
	for depth, want := range []int{0, 0, 0, 3, 3} {
		holds(t, p, 0, newSearch(p, 0, 10).byStates(depth), want)
	}
}
