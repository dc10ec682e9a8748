package cnf

import (
	"fmt"
	"math"
	"slices"
	"testing"

	"lustrum/api"
	"lustrum/graph"
)

// told of roots: a formula and the variables of gates, as they are printed.
func told(t testing.TB, g *graph.Graph, roots []api.Lit, want string) {
	t.Helper()
	f, vars, err := Of(g, roots)
	if got := fmt.Sprint(f, vars); got != want || err != nil {
		t.Errorf("%v: %s, %v, want %s", roots, got, err, want)
	}
	if err := Check(f); err != nil {
		t.Error(roots, err)
	}
}

// mixed graph: gates 1, 2 and 5 are inputs, gate 3 is of 2 and 5, gate 4 of 3 and 7, gate 6 of 9 and 10, gate 7 of 4 and 12.
func mixed(t testing.TB) *graph.Graph {
	t.Helper()
	g := withInputs(t, 2)
	x := and(t, g, 5, 2)
	y := and(t, g, x^1, 3)
	z, err := g.Input()
	if err != nil {
		t.Fatal(err)
	}
	last := and(t, g, z, y^1)
	if top := and(t, g, last, 4); x != 6 || y != 8 || z != 10 || last != 12 || top != 14 {
		t.Fatal(x, y, z, last, top)
	}
	return g
}

// TestP111NoGates: roots that are of gate 0 need none.
func TestP111NoGates(t *testing.T) {
	for _, g := range []*graph.Graph{new(graph.Graph), withInputs(t, 2)} {
		vars := fmt.Sprint(make([]int, g.Gates()))
		told(t, g, nil, "{0 []} "+vars)
		told(t, g, []api.Lit{}, "{0 []} "+vars)
		told(t, g, []api.Lit{1}, "{0 []} "+vars)
		told(t, g, []api.Lit{1, 1, 1}, "{0 []} "+vars)
		told(t, g, []api.Lit{0}, "{0 [[]]} "+vars)
		told(t, g, []api.Lit{0, 1, 0}, "{0 [[] []]} "+vars)
	}
}

func TestP111Inputs(t *testing.T) {
	g := withInputs(t, 3)
	told(t, g, []api.Lit{2}, "{1 [[1]]} [0 1 0 0]")
	told(t, g, []api.Lit{7}, "{1 [[-1]]} [0 0 0 1]")
	// roots stand as they came, each of them, and their variables rise
	told(t, g, []api.Lit{7, 2}, "{2 [[-2] [1]]} [0 1 0 2]")
	told(t, g, []api.Lit{4, 5, 4, 0, 2, 1, 4}, "{2 [[2] [-2] [2] [] [1] [2]]} [0 1 2 0]")
}

func TestP111Gates(t *testing.T) {
	g := mixed(t)
	told(t, g, []api.Lit{6}, "{3 [[-3 1] [-3 -2] [3 -1 2] [3]]} [0 1 2 3 0 0 0 0]")
	told(t, g, []api.Lit{7}, "{3 [[-3 1] [-3 -2] [3 -1 2] [-3]]} [0 1 2 3 0 0 0 0]")
	told(t, g, []api.Lit{10}, "{1 [[1]]} [0 0 0 0 0 1 0 0]")
	told(t, g, []api.Lit{10, 6}, "{4 [[-3 1] [-3 -2] [3 -1 2] [4] [3]]} [0 1 2 3 0 4 0 0]")
	told(t, g, []api.Lit{8}, "{4 [[-3 1] [-3 -2] [3 -1 2] [-4 -1] [-4 -3] [4 1 3] [4]]} [0 1 2 3 4 0 0 0]")
	told(t, g, []api.Lit{13}, "{6 [[-3 1] [-3 -2] [3 -1 2] [-4 -1] [-4 -3] [4 1 3] [-6 -4] [-6 5] [6 4 -5] [-6]]} [0 1 2 3 4 5 6 0]")
	told(t, g, []api.Lit{14, 2}, "{7 [[-3 1] [-3 -2] [3 -1 2] [-4 -1] [-4 -3] [4 1 3] [-6 -4] [-6 5] [6 4 -5] [-7 2] [-7 6] [7 -2 -6] [7] [1]]} [0 1 2 3 4 5 6 7]")
}

// TestP111Needed: gates that nothing needs are none, also between others, below them and above.
func TestP111Needed(t *testing.T) {
	g := withInputs(t, 4)
	low := and(t, g, 2, 4)
	mid := and(t, g, 6, 8)
	high := and(t, g, mid, 3)
	and(t, g, low, high)
	told(t, g, []api.Lit{high}, "{5 [[-4 2] [-4 3] [4 -2 -3] [-5 -1] [-5 4] [5 1 -4] [5]]} [0 1 0 2 3 0 4 5 0]")
}

func TestP111Shape(t *testing.T) {
	for _, g := range []*graph.Graph{new(graph.Graph), mixed(t)} {
		beyond := api.Lit(2 * g.Gates())
		for _, bad := range []api.Lit{-1, -2, -3, beyond, beyond + 1, 2 * api.MaxGates, math.MaxInt, math.MinInt, math.MinInt + 1} {
			for _, roots := range [][]api.Lit{{bad}, {bad, 1}, {0, bad}, {beyond - 1, 1, bad, 0}} {
				if f, vars, err := Of(g, roots); !isZero(f) || len(vars) > 0 || err != api.ErrShape {
					t.Errorf("%v: %v, %v, %v", roots, f, vars, err)
				}
			}
		}
		if _, _, err := Of(g, []api.Lit{beyond - 1, beyond - 2}); err != nil {
			t.Error(err)
		}
	}
}

// TestP111Deep: each gate of the chain is of the one ahead of it, as many as there can be; none of them is left out.
func TestP111Deep(t *testing.T) {
	g := withInputs(t, 2)
	last := api.Lit(2)
	for g.Gates() < api.MaxGates {
		last = and(t, g, last^1, 4)
	}
	f, vars, err := Of(g, []api.Lit{last})
	if f.Vars != api.MaxGates-1 || len(f.L) != 3*(api.MaxGates-3)+1 || err != nil || Check(f) != nil {
		t.Fatal(f.Vars, len(f.L), err)
	}
	for n, x := range vars {
		if n != x {
			t.Fatal(n, x)
		}
	}
	end := api.MaxGates - 1
	if got := fmt.Sprint(f.L[len(f.L)-4:]); got != fmt.Sprintf("[[-%[1]d 2] [-%[1]d -%[2]d] [%[1]d -2 %[2]d] [%[1]d]]", end, end-1) {
		t.Error(got)
	}
}

// TestP111ManyRoots: no bound is told of them; what comes of too many is no formula.
func TestP111ManyRoots(t *testing.T) {
	g := withInputs(t, 1)
	f, _, err := Of(g, slices.Repeat([]api.Lit{1, 3}, api.MaxClauses))
	if f.Vars != 1 || len(f.L) != api.MaxClauses || err != nil || Check(f) != nil {
		t.Error(f.Vars, len(f.L), err)
	}
	f, _, err = Of(g, slices.Repeat([]api.Lit{3}, api.MaxClauses+1))
	if f.Vars != 1 || len(f.L) != api.MaxClauses+1 || err != nil || Check(f) != api.ErrBound {
		t.Error(f.Vars, len(f.L), err)
	}
}

// TestP113Xor: of all that variables can be, just those are taken in which gates are worked out, and the root holds.
func TestP113Xor(t *testing.T) {
	g := withInputs(t, 2)
	x, err := g.Xor(2, 4)
	if err != nil {
		t.Fatal(err)
	}
	f, vars, err := Of(g, []api.Lit{x})
	if err != nil || f.Vars != 5 {
		t.Fatal(f, vars, err)
	}
	taken := 0
	for n := range 1 << f.Vars {
		values := bitsOf(n, f.Vars)
		a, b := values[0], values[1]
		want := a != b && values[2] == (a && !b) && values[3] == (b && !a) && !values[4]
		if holds(f, values) != want {
			t.Error(values)
		}
		if want {
			taken++
		}
	}
	if taken != 2 {
		t.Error(taken)
	}
}
