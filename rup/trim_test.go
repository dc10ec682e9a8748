package rup

import (
	"math/rand"
	"slices"
	"testing"

	"lustrum/api"
	"lustrum/cnf"
	"lustrum/sat"
)

func TestP131Trim(t *testing.T) {
	all := []api.Clause{{1, 2}, {-1, 2}, {1, -2}, {-1, -2}}
	for _, c := range []struct {
		vars           int
		l, proof, want []api.Clause
	}{
		{0, []api.Clause{{}}, []api.Clause{{}}, []api.Clause{{}}},
		{0, []api.Clause{{}}, []api.Clause{nil, nil}, []api.Clause{{}}},
		{2, []api.Clause{{1}, {2}, {}}, []api.Clause{{1}, {2}, {}, {1}}, []api.Clause{{}}},
		{1, []api.Clause{{1}, {-1}}, []api.Clause{{1}, {-1}, {}}, []api.Clause{{}}},
		{2, all, []api.Clause{{1}, {}}, []api.Clause{{1}, {}}},
		{2, all, []api.Clause{{1}, {2}, {-2}, {}, {}, {-1}}, []api.Clause{{1}, {}}},
		{2, all, []api.Clause{{1, -1}, {-2}, {1, -1}, {}}, []api.Clause{{-2}, {}}},
		{4, append(slices.Clone(all), api.Clause{3, 4}), []api.Clause{{3, 4}, {3, -3, 4}, {1}, {3, 4}, {}, {3}, {4}}, []api.Clause{{1}, {}}},
		// what is needed only since other clauses need it
		{5, []api.Clause{{-5, 1, 2}, {-5, 1, -2}, {-5, -1, 2}, {-5, -1, -2}, {5, 3, 4}, {5, 3, -4}, {5, -3, 4}, {5, -3, -4}}, []api.Clause{{-5, 1}, {5, 3}, {-5}, {5}, {}}, []api.Clause{{-5, 1}, {5, 3}, {-5}, {}}},
		// a clause that makes true for good what others need
		{4, []api.Clause{{1, 2}, {1, -2}, {-1, 3, 4}, {-1, 3, -4}, {-1, -3, 4}, {-1, -3, -4}}, []api.Clause{{1}, {3}, {}}, []api.Clause{{1}, {3}, {}}},
	} {
		f := cnf.Formula{Vars: c.vars, L: c.l}
		if l := takes(t, f, c.proof); !same(l, c.want) {
			t.Errorf("%v, %v: %v", f, c.proof, l)
		}
	}
}

// TestP131Ends: nothing comes behind the first clause without numbers, and that one is told.
func TestP131Ends(t *testing.T) {
	f := put(5, 4)
	a, err := sat.Solve(f, 100000)
	if a.Kind != "no" || err != nil {
		t.Fatal(a, err)
	}
	for _, behind := range [][]api.Clause{nil, {{}}, {{1}, {}, {-1}}, a.Proof} {
		l := takes(t, f, append(slices.Clone(a.Proof), behind...))
		if len(l[len(l)-1]) > 0 || slices.IndexFunc(l, isEmpty) != len(l)-1 {
			t.Error(l)
		}
	}
}

// TestP131Strangers: of two proofs side by side one goes, and so does what has to do with neither.
func TestP131Strangers(t *testing.T) {
	f, other := put(5, 4), put(6, 6)
	a, err := sat.Solve(f, 100000)
	if a.Kind != "no" || err != nil {
		t.Fatal(a, err)
	}
	r := rand.New(rand.NewSource(131))
	strange := further(drawnProof(r, other, 500), f.Vars)
	var proof []api.Clause
	for _, c := range a.Proof {
		proof = append(proof, strange[:10]...)
		proof = append(proof, c)
		strange = strange[10:]
	}
	l := takes(t, beside(f, other), proof)
	if len(l) > len(a.Proof) || !isTrimmed(l, a.Proof) {
		t.Error(len(l), len(a.Proof))
	}
	twice := beside(f, f)
	one, two := a.Proof[:len(a.Proof)-1], further(a.Proof, f.Vars)
	if l := takes(t, twice, slices.Concat(one, two)); len(l) > len(a.Proof) {
		t.Error(len(l), len(a.Proof))
	}
}

// TestP131Settled: what the formula makes true alone asks for nothing of the proof, though all hangs on it.
func TestP131Settled(t *testing.T) {
	const many = 5000
	f := cnf.Formula{Vars: many, L: []api.Clause{{1}}}
	for n := 1; n < many; n++ {
		f.L = append(f.L, api.Clause{-n, n + 1})
	}
	holes := further(put(5, 4).L, many)
	for i, c := range holes {
		holes[i] = append(c, -many, -many/2, -i-1)
	}
	f = cnf.Formula{Vars: many + put(5, 4).Vars, L: append(f.L, holes...)}
	a, err := sat.Solve(put(5, 4), 100000)
	if a.Kind != "no" || err != nil {
		t.Fatal(a.Kind, err)
	}
	proof := further(a.Proof, many)
	k := newChecker(f)
	told := 0
	for _, c := range proof {
		k.follows(c, func(sources []int32) {
			for _, x := range sources {
				if x < 0 && (k.places[-x] < many || int(k.places[-x]) >= k.fixed) {
					t.Error(c, x)
				}
			}
			told += len(sources)
		})
		k.add(c)
	}
	if k.settled != many || told < 5 {
		t.Error(k.settled, told)
	}
	if l := takes(t, f, proof); len(l) < 5 {
		t.Error(l)
	}
}
