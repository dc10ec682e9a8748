package sat

import (
	"math/rand"
	"slices"
	"sync"
	"testing"

	"lustrum/api"
	"lustrum/cnf"
)

// copied formula, each clause of its own.
func copied(f cnf.Formula) cnf.Formula { return cnf.Formula{Vars: f.Vars, L: copies(f.L)} }

func copies(l []api.Clause) []api.Clause {
	m := make([]api.Clause, len(l))
	for i, c := range l {
		m[i] = slices.Clone(c)
	}
	return m
}

func same(a, b []api.Clause) bool {
	return slices.EqualFunc(a, b, func(c, d api.Clause) bool { return slices.Equal(c, d) })
}

func alike(a, b Answer) bool {
	return a.Kind == b.Kind && slices.Equal(a.Model, b.Model) && same(a.Proof, b.Proof)
}

// TestP2Always: the same answers, also where others ask at the same time, for other things.
func TestP2Always(t *testing.T) {
	r := rand.New(rand.NewSource(2))
	formulas := []cnf.Formula{put(7, 6), put(5, 5), drawnClauses(r, 60, 250, 3), drawnClauses(r, 60, 280, 3), parity(r, 12, 4)}
	var answers []Answer
	for _, f := range formulas {
		a, err := Solve(f, 100000)
		if err != nil || a.Kind == "tired" {
			t.Fatal(a, err)
		}
		answers = append(answers, a)
	}
	var wait sync.WaitGroup
	for i := range 8 {
		wait.Go(func() {
			for k := range 10 {
				n := (i + k) % len(formulas)
				if a, err := Solve(formulas[n], 100000); !alike(a, answers[n]) || err != nil {
					t.Error(n, a.Kind, err)
				}
				Solve(formulas[n], i)
				if n, err := Count(formulas[1], 200); n != 120 || err != nil {
					t.Error(n, err)
				}
			}
		})
	}
	wait.Wait()
}

// TestP3BehindTheLength: memory there is neither read nor written.
func TestP3BehindTheLength(t *testing.T) {
	numbers := api.Clause{1, 2, 0, 77}
	clauses := []api.Clause{numbers[:2], {-1, 2}, {}, {99}}
	f := cnf.Formula{Vars: 2, L: clauses[:2]}
	if a := solve(t, f, 100, "yes"); !a.Model[1] {
		t.Error(a)
	}
	count(t, f, 2)
	if !slices.Equal(numbers, api.Clause{1, 2, 0, 77}) || len(clauses[2]) != 0 || !slices.Equal(clauses[3], api.Clause{99}) {
		t.Error(numbers, clauses)
	}
}

// spoilt: all that is in a list, and what may be put behind it, is written over.
func spoilt[T any](l []T, with T) {
	for i := range l {
		l[i] = with
	}
	_ = append(l, with, with, with)
}

// TestP4Memory: what is handed over is only read, and not kept; no two lists of an answer share memory.
func TestP4Memory(t *testing.T) {
	for _, f := range []cnf.Formula{put(5, 4), put(5, 5), {Vars: 2, L: []api.Clause{{2, 1, 1}, {1, -2, 1}, {-1, 2, 2}, {-2, -1, -2}}}} {
		given := copied(f)
		a, err := Solve(f, 100000)
		if err != nil || !same(f.L, given.L) {
			t.Fatal(f, err)
		}
		want := Answer{Kind: a.Kind, Model: slices.Clone(a.Model), Proof: copies(a.Proof)}
		for _, c := range f.L {
			spoilt(c, 99)
		}
		spoilt(f.L, nil)
		if !alike(a, want) {
			t.Error(a, want)
		}
		for i := range a.Proof {
			spoilt(a.Proof[i], 99)
			for j := range a.Proof {
				if j > i && !slices.Equal(a.Proof[j], want.Proof[j]) {
					t.Errorf("clause %d is seen in %d", i, j)
				}
			}
		}
		spoilt(a.Proof, nil)
		spoilt(a.Model, true)
		if again, err := Solve(given, 100000); !alike(again, want) || err != nil {
			t.Error(again, err)
		}
	}
	f := put(4, 4)
	given := copied(f)
	if count(t, f, 24); !same(f.L, given.L) {
		t.Error(f)
	}
}
