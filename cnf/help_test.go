package cnf

import (
	"errors"
	"slices"
	"testing"

	"lustrum/api"
	"lustrum/graph"
)

// withInputs is a graph of so many inputs, in literals 2, 4, ..
func withInputs(t testing.TB, n int) *graph.Graph {
	t.Helper()
	g := new(graph.Graph)
	for i := range n {
		if x, err := g.Input(); x != api.Lit(2*i+2) || err != nil {
			t.Fatal(i, x, err)
		}
	}
	return g
}

// and of two that are in the graph.
func and(t testing.TB, g *graph.Graph, a, b api.Lit) api.Lit {
	t.Helper()
	x, err := g.And(a, b)
	if err != nil {
		t.Fatal(a, b, err)
	}
	return x
}

func alike(f, h Formula) bool {
	same := func(a, b api.Clause) bool { return slices.Equal(a, b) }
	return f.Vars == h.Vars && slices.EqualFunc(f.L, h.L, same)
}

func isZero(f Formula) bool { return f.Vars == 0 && len(f.L) == 0 }

// isFault of this kind, at this place, and no error around it.
func isFault(err error, kind error, at int) bool {
	f, ok := err.(*api.Fault)
	return ok && f.At == at && f.Err == kind && errors.Is(err, kind)
}

// holds a formula, variables having such values?
func holds(f Formula, values []bool) bool {
	for _, c := range f.L {
		if !slices.ContainsFunc(c, func(n int) bool { return n > 0 && values[n-1] || n < 0 && !values[-n-1] }) {
			return false
		}
	}
	return true
}

// bitsOf a number, the lowest first.
func bitsOf(n, bits int) []bool {
	l := make([]bool, bits)
	for i := range l {
		l[i] = n>>i&1 == 1
	}
	return l
}
