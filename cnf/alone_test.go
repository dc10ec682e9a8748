package cnf

import (
	"math/rand"
	"slices"
	"sync"
	"testing"

	"lustrum/api"
	"lustrum/graph"
)

// copied formula, each clause of its own.
func copied(f Formula) Formula {
	h := Formula{Vars: f.Vars, L: make([]api.Clause, len(f.L))}
	for i, c := range f.L {
		h.L[i] = slices.Clone(c)
	}
	return h
}

// sameGates of two graphs.
func sameGates(g, h *graph.Graph) bool {
	if g.Gates() != h.Gates() || g.Inputs() != h.Inputs() {
		return false
	}
	for n := range g.Gates() {
		a, b, input, _ := g.Parts(n)
		if c, d, other, _ := h.Parts(n); a != c || b != d || input != other {
			return false
		}
	}
	return true
}

// TestP2Always: the same answers, also where others ask at the same time, for other things.
func TestP2Always(t *testing.T) {
	r := rand.New(rand.NewSource(2))
	p := &game{t: t, choices: drawn(r, 400), seen: new(seen)}
	g := p.graph(80)
	roots := []api.Lit{0, 7, 1}
	for n := 40; n < 2*g.Gates(); n += 3 {
		roots = append(roots, api.Lit(n))
	}
	f, vars, err := Of(g, roots)
	s, bad := Text(f)
	if err != nil || bad != nil || len(f.L) < 20 {
		t.Fatal(f, err, bad)
	}
	var wait sync.WaitGroup
	for i := range 8 {
		wait.Go(func() {
			for range 40 {
				Of(g, []api.Lit{api.Lit(2 * i), api.Lit(2*g.Gates() - 2 - i), -1}[:1+i%3])
				h, also, err := Of(g, roots)
				if !alike(f, h) || !slices.Equal(vars, also) || err != nil {
					t.Error(h, also, err)
				}
				if again, err := Text(h); again != s || err != nil {
					t.Error(again, err)
				}
				if back, err := Read(s); !alike(back, f) || err != nil || Check(f) != nil {
					t.Error(back, err)
				}
			}
		})
	}
	wait.Wait()
}

// TestP3BehindTheLength: memory there is neither read nor written.
func TestP3BehindTheLength(t *testing.T) {
	g := withInputs(t, 2)
	roots := []api.Lit{2, 5, -7, 99}
	f, _, err := Of(g, roots[:2])
	if !alike(f, Formula{Vars: 2, L: []api.Clause{{1}, {-2}}}) || err != nil || !slices.Equal(roots, []api.Lit{2, 5, -7, 99}) {
		t.Error(f, err, roots)
	}
	numbers := api.Clause{1, -2, 0, 77}
	clauses := []api.Clause{numbers[:2], {2}, {0}, {99}}
	if s, err := Text(Formula{Vars: 2, L: clauses[:2]}); s != "p cnf 2 2\n1 -2 0\n2 0\n" || err != nil {
		t.Errorf("%q, %v", s, err)
	}
	if err := Check(Formula{Vars: 2, L: clauses[:2]}); err != nil {
		t.Error(err)
	}
	if !slices.Equal(numbers, api.Clause{1, -2, 0, 77}) || len(clauses[2]) != 1 || clauses[2][0] != 0 || clauses[3][0] != 99 {
		t.Error(numbers, clauses)
	}
}

// spoilt: all that is in a list, and what may be put behind it, is written over.
func spoilt[T any](l []T, with T) {
	for i := range l {
		l[i] = with
	}
	_ = append(l, with, with, with)
}

// TestP4Memory: what is handed over is only read, and not kept; no two lists of answers share memory.
func TestP4Memory(t *testing.T) {
	g, same := mixed(t), mixed(t)
	roots := []api.Lit{14, 7, 0, 2}
	f, vars, err := Of(g, roots)
	want, wantVars := copied(f), slices.Clone(vars)
	if err != nil || !slices.Equal(roots, []api.Lit{14, 7, 0, 2}) || !sameGates(g, same) {
		t.Fatal(err, roots)
	}
	spoilt(roots, 99)
	if !alike(f, want) || !slices.Equal(vars, wantVars) {
		t.Error(f, vars)
	}
	s, err := Text(f)
	if !alike(f, want) || err != nil || Check(f) != nil {
		t.Error(f, err)
	}
	back, err := Read(s)
	if !alike(back, want) || err != nil {
		t.Error(back, err)
	}
	for _, h := range []Formula{f, back} {
		for i := range h.L {
			spoilt(h.L[i], 99)
			for j := range h.L {
				if j > i && !slices.Equal(h.L[j], want.L[j]) {
					t.Errorf("clause %d is seen in %d", i, j)
				}
			}
		}
		spoilt(h.L, nil)
	}
	if !slices.Equal(vars, wantVars) {
		t.Error(vars)
	}
	spoilt(vars, 99)
	again, also, err := Of(g, []api.Lit{14, 7, 0, 2})
	if !alike(again, want) || !slices.Equal(also, wantVars) || err != nil || !sameGates(g, same) {
		t.Error(again, also, err)
	}
	if back, err := Read(s); !alike(back, want) || err != nil {
		t.Error(back, err)
	}
}

// TestP4LaterGates: a formula stays as it is when its graph grows, and the one of the graph behind that has the same variables for the gates that were there.
func TestP4LaterGates(t *testing.T) {
	g := mixed(t)
	f, vars, err := Of(g, []api.Lit{14})
	want := copied(f)
	if err != nil {
		t.Fatal(err)
	}
	more := and(t, g, 14, 2)
	if !alike(f, want) {
		t.Error(f)
	}
	h, later, err := Of(g, []api.Lit{14, more})
	if h.Vars != f.Vars+1 || !slices.Equal(later[:len(vars)], vars) || later[len(vars)] != h.Vars || err != nil {
		t.Error(h, later, err)
	}
}
