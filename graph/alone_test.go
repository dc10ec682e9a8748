package graph

import (
	"math/rand"
	"slices"
	"sync"
	"testing"

	"lustrum/api"
)

// grown graph, by the choices alone.
func grown(t testing.TB, choices []byte) *Graph {
	t.Helper()
	p := &game{t: t, g: new(Graph), s: newSecond(), choices: choices, seen: new(seen)}
	for len(p.choices) > 0 {
		p.move()
	}
	return p.g
}

func alike(g, h *Graph) bool {
	if g.Gates() != h.Gates() || g.Inputs() != h.Inputs() {
		return false
	}
	for n := range g.Gates() + 1 {
		a, b, input, err := g.Parts(n)
		if c, d, other, bad := h.Parts(n); a != c || b != d || input != other || err != bad {
			return false
		}
	}
	return true
}

// TestP2Alone: graphs know nothing of each other.
func TestP2Alone(t *testing.T) {
	r := rand.New(rand.NewSource(2))
	for range 20 {
		choices := drawn(r, 800)
		g := grown(t, choices)
		grown(t, drawn(r, 800))
		if !alike(g, grown(t, choices)) {
			t.Fatal("unlike")
		}
	}
	g, h := withInputs(t, 2), withInputs(t, 3)
	x, err := g.And(2, 4)
	came(t, x, err, 6)
	x, err = h.And(4, 2)
	came(t, x, err, 8)
}

// TestP2ReadSideBySide: what only reads a graph may do so while others do.
func TestP2ReadSideBySide(t *testing.T) {
	for _, g := range []*Graph{new(Graph), grown(t, drawn(rand.New(rand.NewSource(3)), 900))} {
		in := make([]bool, g.Inputs())
		l := []api.Lit{0, 1, api.Lit(2*g.Gates() - 1)}
		want, err := g.Eval(in, l)
		if err != nil {
			t.Fatal(err)
		}
		var wait sync.WaitGroup
		for range 8 {
			wait.Go(func() {
				for range 50 {
					if got, err := g.Eval(in, l); !slices.Equal(got, want) || err != nil || !alike(g, g) {
						t.Error(got, err)
					}
				}
			})
		}
		wait.Wait()
	}
}

// TestP2EvalLeaves: no Eval, be it refused or not, changes a graph.
func TestP2EvalLeaves(t *testing.T) {
	choices := drawn(rand.New(rand.NewSource(4)), 900)
	g, h := grown(t, choices), grown(t, choices)
	in := make([]bool, g.Inputs())
	for _, l := range [][]api.Lit{nil, {0}, {1, 2}, {-1}, {api.Lit(2 * g.Gates())}} {
		g.Eval(in, l)
		g.Eval(nil, l)
		g.Eval(append(in, true), l)
	}
	if !alike(g, h) {
		t.Error("changed")
	}
	x, err := g.Input()
	want, _ := h.Input()
	came(t, x, err, want)
}

// TestP3BehindTheLength: memory there is neither read nor written.
func TestP3BehindTheLength(t *testing.T) {
	g := withInputs(t, 2)
	in := []bool{true, false, true, true}
	l := []api.Lit{2, 4, -7, 99}
	got, err := g.Eval(in[:2], l[:2])
	if !slices.Equal(got, []bool{true, false}) || err != nil {
		t.Error(got, err)
	}
	_ = append(got, true, true, true)
	if !slices.Equal(in, []bool{true, false, true, true}) || !slices.Equal(l, []api.Lit{2, 4, -7, 99}) {
		t.Error(in, l)
	}
}

// TestP4Memory: lists are only read, and not kept; answers are new.
func TestP4Memory(t *testing.T) {
	g := withInputs(t, 2)
	in, l := []bool{true, false}, []api.Lit{2, 4, 3}
	first, err := g.Eval(in, l)
	if !slices.Equal(first, []bool{true, false, false}) || err != nil {
		t.Fatal(first, err)
	}
	if !slices.Equal(in, []bool{true, false}) || !slices.Equal(l, []api.Lit{2, 4, 3}) {
		t.Error(in, l)
	}
	in[0], l[0] = false, 4
	if !slices.Equal(first, []bool{true, false, false}) {
		t.Error(first)
	}
	later, _ := g.Eval([]bool{true, false}, []api.Lit{2, 4, 3})
	first[0], first[1] = false, true
	if !slices.Equal(later, []bool{true, false, false}) {
		t.Error(later)
	}
	worked(t, g, []bool{true, false}, []api.Lit{2, 4, 3}, []bool{true, false, false})
}
