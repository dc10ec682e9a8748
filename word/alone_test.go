package word

import (
	"slices"
	"sync"
	"testing"

	"lustrum/api"
	"lustrum/graph"
)

func alike(g, h *graph.Graph) bool {
	if g.Gates() != h.Gates() || g.Inputs() != h.Inputs() {
		return false
	}
	for n := range g.Gates() {
		a, b, input, _ := g.Parts(n)
		if c, d, other, _ := h.Parts(n); a != c || b != d || input != other {
			return false
		}
	}
	return true
}

// TestP2Always: the same calls make the same gates, also where others work on graphs of their own.
func TestP2Always(t *testing.T) {
	graphs := make([]*graph.Graph, 8)
	var wait sync.WaitGroup
	for i := range graphs {
		g := new(graph.Graph)
		graphs[i] = g
		all := requests(t, g)
		wait.Go(func() {
			for _, r := range all {
				if _, _, err := Of(g, r.op, r.l); err != nil {
					t.Error(r.op, err)
				}
			}
		})
	}
	wait.Wait()
	for _, g := range graphs {
		if !alike(g, graphs[0]) {
			t.Error("unlike")
		}
	}
}

// TestP2Again: asked for again, a graph has all gates.
func TestP2Again(t *testing.T) {
	g := new(graph.Graph)
	for _, r := range requests(t, g) {
		out, trap := of(t, g, r.op, r.l...)
		gates := g.Gates()
		if again, alsoTrap := of(t, g, r.op, r.l...); !slices.Equal(out, again) || trap != alsoTrap || g.Gates() != gates {
			t.Errorf("%q: %v, then %v", r.op, out, again)
		}
		if g.Inputs() != 19 {
			t.Errorf("%q: %d inputs", r.op, g.Inputs())
		}
	}
}

// TestP4Memory: words are only read, also behind their lengths, and answers are new.
func TestP4Memory(t *testing.T) {
	g := new(graph.Graph)
	for _, r := range requests(t, g) {
		var l, same [][]api.Lit
		for _, w := range r.l {
			room := append(slices.Clone(w), -7, 99999999)
			l = append(l, room[:len(w)])
			same = append(same, slices.Clone(room))
		}
		l = append(l, nil)[:len(l)]
		out, _ := of(t, g, r.op, l...)
		want := slices.Clone(out)
		for i := range out {
			out[i] = -5
		}
		_ = append(out, -6, -6, -6)
		for i, w := range l {
			if !slices.Equal(w[:len(w)+2], same[i]) {
				t.Errorf("%q: %v, was %v", r.op, w[:len(w)+2], same[i])
			}
		}
		if again, _ := of(t, g, r.op, r.l...); !slices.Equal(again, want) {
			t.Errorf("%q: %v, want %v", r.op, again, want)
		}
	}
}

// TestP4WordsAsTheyAre: also where an answer is one of the words, it has memory of its own.
func TestP4WordsAsTheyAre(t *testing.T) {
	g := new(graph.Graph)
	a, zero := inputs(t, g, 8), constant(t, 0)
	same := slices.Clone(a)
	for _, r := range []request{
		{"if", words([]api.Lit{1}, a, zero)}, {"if", words([]api.Lit{0}, zero, a)},
		{"+", words(a, zero)}, {"+", words(zero, a)}, {"-", words(a, zero)}, {"*", words(a, constant(t, 1))}, {"*", words(constant(t, 1), a)},
	} {
		out, _ := of(t, g, r.op, r.l...)
		if !slices.Equal(out, a) {
			t.Errorf("%q of %v: %v", r.op, r.l, out)
		}
		clear(out)
		if !slices.Equal(a, same) || slices.Max(zero) > 0 {
			t.Fatalf("%q: %v, %v", r.op, a, zero)
		}
	}
	if g.Gates() != 9 {
		t.Error(g.Gates())
	}
}
