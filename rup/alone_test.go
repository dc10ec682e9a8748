package rup

import (
	"math/rand"
	"slices"
	"sync"
	"testing"

	"lustrum/api"
	"lustrum/cnf"
	"lustrum/sat"
)

// TestP2Always: the same answers, also where others ask at the same time, for other things.
func TestP2Always(t *testing.T) {
	r := rand.New(rand.NewSource(2))
	formulas := []cnf.Formula{put(7, 6), put(5, 4), drawnClauses(r, 60, 300, 3), drawnClauses(r, 100, 500, 3)}
	var proofs, trimmed [][]api.Clause
	for _, f := range formulas {
		a, err := sat.Solve(f, 100000)
		if err != nil || a.Kind != "no" {
			t.Fatal(a.Kind, err)
		}
		proofs, trimmed = append(proofs, a.Proof), append(trimmed, takes(t, f, a.Proof))
	}
	var wait sync.WaitGroup
	for i := range 8 {
		wait.Go(func() {
			for k := range 8 {
				n := (i + k) % len(formulas)
				if l, err := Trim(formulas[n], proofs[n]); !same(l, trimmed[n]) || err != nil {
					t.Error(n, len(l), err)
				}
				if err := Check(formulas[n], proofs[n][1:]); !sameError(err, Check(formulas[n], proofs[n][1:])) {
					t.Error(n, err)
				}
				if err := Check(formulas[n], trimmed[n]); err != nil {
					t.Error(n, err)
				}
			}
		})
	}
	wait.Wait()
}

// TestP3BehindTheLength: memory there is neither read nor written.
func TestP3BehindTheLength(t *testing.T) {
	numbers := api.Clause{1, 2, 0, 77}
	clauses := []api.Clause{numbers[:2], {-1, 2}, {1, -2}, {-1, -2}, {}, {99}}
	f := cnf.Formula{Vars: 2, L: clauses[:4]}
	lemma := api.Clause{1, 0, 88}
	proof := []api.Clause{lemma[:1], {}, {0}, {99}}
	if l := takes(t, f, proof[:2]); !same(l, []api.Clause{{1}, {}}) {
		t.Error(l)
	}
	refuses(t, f, proof[:1], api.ErrProof)
	refuses(t, f, proof[:0], api.ErrProof)
	refuses(t, cnf.Formula{Vars: 2, L: clauses[:3]}, proof[:2], noProof(1))
	if !slices.Equal(numbers, api.Clause{1, 2, 0, 77}) || len(clauses[4]) != 0 || !slices.Equal(clauses[5], api.Clause{99}) {
		t.Error(numbers, clauses)
	}
	if !slices.Equal(lemma, api.Clause{1, 0, 88}) || !same(proof[2:], []api.Clause{{0}, {99}}) {
		t.Error(lemma, proof)
	}
}

// spoilt: all that is in a list, and what may be put behind it, is written over.
func spoilt[T any](l []T, with T) {
	for i := range l {
		l[i] = with
	}
	_ = append(l, with, with, with)
}

// TestP4Memory: what is handed over is only read, and not kept; no two lists of an answer share memory.
func TestP4Memory(t *testing.T) {
	for _, f := range []cnf.Formula{put(5, 4), put(6, 5), {Vars: 2, L: []api.Clause{{2, 1, 1}, {1, -2, 1}, {-1, 2, 2}, {-2, -1, -2}}}} {
		a, err := sat.Solve(f, 100000)
		if err != nil || a.Kind != "no" {
			t.Fatal(a.Kind, err)
		}
		proof := append(a.Proof, api.Clause{1}, api.Clause{})
		given, lemmas := copies(f.L), copies(proof)
		l := takes(t, f, proof)
		if !same(f.L, given) || !same(proof, lemmas) {
			t.Fatal(f, proof)
		}
		want := copies(l)
		for _, c := range slices.Concat(f.L, proof) {
			spoilt(c, 99)
		}
		spoilt(f.L, nil)
		spoilt(proof, nil)
		if !same(l, want) {
			t.Error(l, want)
		}
		for i := range l {
			spoilt(l[i], 99)
			for j := range l {
				if j > i && !slices.Equal(l[j], want[j]) {
					t.Errorf("clause %d is seen in %d", i, j)
				}
			}
		}
		spoilt(l, nil)
		if again := takes(t, cnf.Formula{Vars: f.Vars, L: given}, lemmas); !same(again, want) {
			t.Error(again)
		}
	}
}

// TestP4Answer: what is written into an answer is not seen in the proof.
func TestP4Answer(t *testing.T) {
	f := put(5, 4)
	a, err := sat.Solve(f, 100000)
	if err != nil || a.Kind != "no" {
		t.Fatal(a.Kind, err)
	}
	proof := copies(a.Proof)
	l := takes(t, f, proof)
	for _, c := range l {
		spoilt(c, 99)
	}
	spoilt(l, nil)
	if !same(proof, a.Proof) {
		t.Error(proof)
	}
}
