package rup

import (
	"math"
	"math/rand"
	"slices"
	"testing"

	"lustrum/api"
	"lustrum/cnf"
	"lustrum/sat"
)

func TestP130Takes(t *testing.T) {
	for _, c := range []struct {
		vars     int
		l, proof []api.Clause
	}{
		{1, []api.Clause{{1}, {-1}}, []api.Clause{{}}},
		{0, []api.Clause{{}}, []api.Clause{{}}},
		{0, []api.Clause{nil}, []api.Clause{nil}},
		{0, []api.Clause{{}}, []api.Clause{{}, {}, {}}},
		{3, []api.Clause{{}}, []api.Clause{{1}, {-1}, {2, -3}, {}}},
		{3, []api.Clause{{}}, []api.Clause{{}, {1}, {-1}, {2, -3}}},
		{2, []api.Clause{{1, 2}, {-1, 2}, {1, -2}, {-1, -2}}, []api.Clause{{1}, {}}},
		{2, []api.Clause{{1, 2}, {-1, 2}, {1, -2}, {-1, -2}}, []api.Clause{{-2}, {}}},
		{2, []api.Clause{{1, 2}, {-1, 2}, {1, -2}, {-1, -2}}, []api.Clause{{1, 2}, {2, -2}, {1}, {2}, {-2}, {}}},
		{3, []api.Clause{{1}, {-1, 2}, {-2, 3}, {-3, -1}}, []api.Clause{{}}},
		{3, []api.Clause{{-3, -1}, {-2, 3}, {-1, 2}, {1}}, []api.Clause{{}}},
		{4, []api.Clause{{1, 2, 3, 4}, {-1}, {-2}, {-3}, {-4}}, []api.Clause{{}}},
		{4, []api.Clause{{-1}, {-2}, {-3}, {-4}, {4, 3, 2, 1}}, []api.Clause{{}}},
		{4, []api.Clause{{1, 2, 3, 4}, {-1, 3}, {-2, 3}, {-4, 3}, {-3, 1}, {-3, -1}}, []api.Clause{{3}, {}}},
		// behind the end all follows
		{3, []api.Clause{{1}, {-1}}, []api.Clause{{}, {2}, {-2}, {3, -2}, {}, {-3}}},
		{3, []api.Clause{{1}, {-1}}, []api.Clause{{2}, {-2}, {3, -2}, {-3}, {}}},
		// it follows from what is true for good
		{4, []api.Clause{{1}, {-1, 2}, {3, 4}, {3, -4}, {-3, 4}, {-3, -4}}, []api.Clause{{2}, {2, 3}, {-4, 1}, {3}, {}}},
	} {
		takes(t, cnf.Formula{Vars: c.vars, L: c.l}, c.proof)
	}
}

func TestP130Refuses(t *testing.T) {
	all := []api.Clause{{1, 2}, {-1, 2}, {1, -2}, {-1, -2}}
	for _, c := range []struct {
		vars     int
		l, proof []api.Clause
		want     error
	}{
		// it must be by units: that it follows is not enough
		{2, all, []api.Clause{{}}, noProof(0)},
		{2, all, []api.Clause{{1, 2}, {}}, noProof(1)},
		{2, all, []api.Clause{{1, -1}, {}}, noProof(1)},
		{2, all, []api.Clause{{1, 2}, {-2, 2}, {}, {1}}, noProof(2)},
		// no end
		{0, nil, nil, api.ErrProof},
		{0, []api.Clause{{}}, nil, api.ErrProof},
		{0, []api.Clause{{}}, []api.Clause{}, api.ErrProof},
		{2, all, nil, api.ErrProof},
		{2, all, []api.Clause{{1}}, api.ErrProof},
		{2, all, []api.Clause{{1}, {2}, {-1}, {-2}}, api.ErrProof},
		{2, []api.Clause{{1}, {-1}}, []api.Clause{{2}, {-2}}, api.ErrProof},
		{2, nil, []api.Clause{{1, -1}, {2, 1, -2}}, api.ErrProof},
		// it does not follow
		{0, nil, []api.Clause{{}}, noProof(0)},
		{1, nil, []api.Clause{{}}, noProof(0)},
		{1, nil, []api.Clause{{1}, {}}, noProof(0)},
		{1, []api.Clause{{1}}, []api.Clause{{1}, {-1}, {}}, noProof(1)},
		{1, []api.Clause{{1}}, []api.Clause{{1}, {}}, noProof(1)},
		{1, []api.Clause{{1, -1}}, []api.Clause{{1, -1}, {1}}, noProof(1)},
		{1, []api.Clause{{1, -1}, {-1}}, []api.Clause{{-1}, {1}}, noProof(1)},
		{3, []api.Clause{{1, 2}, {-2, 3}}, []api.Clause{{1, 3}, {1, 2, 3}, {1, 2}, {1}}, noProof(3)},
		{3, []api.Clause{{1, 2}, {-2, 3}}, []api.Clause{{2, 3}}, noProof(0)},
		{4, []api.Clause{{1, 2, 3, 4}, {-1}, {-2}}, []api.Clause{{3, 4}, {4, 1, 3}, {4}}, noProof(2)},
		// not from those behind it
		{2, all, []api.Clause{{}, {1}}, noProof(0)},
		{4, append(slices.Clone(all), api.Clause{3, 4}), []api.Clause{{3}, {1}, {}}, noProof(0)},
		{3, []api.Clause{{1, 2}, {1, -2}}, []api.Clause{{1}, {3}, {-1}}, noProof(1)},
	} {
		refuses(t, cnf.Formula{Vars: c.vars, L: c.l}, c.proof, c.want)
	}
}

func TestP130Shape(t *testing.T) {
	f := cnf.Formula{Vars: 3, L: []api.Clause{{1, 2}, {1, -2}, {-1, 3}, {-1, -3}}}
	for _, n := range []int{0, 4, -4, 5, math.MinInt, math.MinInt + 1, math.MaxInt} {
		for _, c := range []api.Clause{{n}, {n, 1}, {1, n}, {1, 2, n}, {1, -1, n}, {n, n}} {
			refuses(t, f, []api.Clause{c}, wrongShape(0))
			refuses(t, f, []api.Clause{c, {}, c}, wrongShape(0))
			refuses(t, f, []api.Clause{{1}, c}, wrongShape(1))
			refuses(t, f, []api.Clause{{1}, {1, 2}, c, {}, {n}}, wrongShape(2))
			// behind the end, too
			refuses(t, f, []api.Clause{{1}, {}, c}, wrongShape(2))
			refuses(t, f, []api.Clause{{1}, {}, {2}, {}, c, {}}, wrongShape(4))
			// the first clause that is wrong, in whatever way
			refuses(t, f, []api.Clause{{}, c}, noProof(0))
			refuses(t, f, []api.Clause{{1, 2}, {}, {1}, c}, noProof(1))
			refuses(t, f, []api.Clause{{1, 2}, c, {}, {2}}, wrongShape(1))
		}
	}
	refuses(t, cnf.Formula{}, []api.Clause{{1}}, wrongShape(0))
	refuses(t, cnf.Formula{L: []api.Clause{{}}}, []api.Clause{{}, {-1}}, wrongShape(1))
	top := cnf.Formula{Vars: api.MaxVars, L: []api.Clause{{api.MaxVars}, {-api.MaxVars}}}
	takes(t, top, []api.Clause{{api.MaxVars}, {-api.MaxVars}, {}})
	refuses(t, top, []api.Clause{{}, {api.MaxVars + 1}}, wrongShape(1))
	refuses(t, top, []api.Clause{{}, {-api.MaxVars - 1}}, wrongShape(1))
}

// TestP130FormulaFirst: what is wrong with the formula comes ahead of what is wrong with the proof.
func TestP130FormulaFirst(t *testing.T) {
	for _, proof := range [][]api.Clause{nil, {{}}, {{0}}, {{1}}, {{9, -9}, {}}, make([]api.Clause, api.MaxClauses+1)} {
		for _, f := range []cnf.Formula{{Vars: -1}, {Vars: math.MinInt}, {Vars: math.MaxInt}, {Vars: api.MaxVars + 1, L: []api.Clause{{0}}}, {L: make([]api.Clause, api.MaxClauses+1)}} {
			refuses(t, f, proof, api.ErrBound)
		}
		for at, f := range []cnf.Formula{{L: []api.Clause{{1}}}, {Vars: 1, L: []api.Clause{{1}, {0}}}, {Vars: 2, L: []api.Clause{{}, {-2}, {1, -3}, {0}}}, {Vars: 2, L: []api.Clause{{}, {}, {}, {math.MinInt}}}} {
			refuses(t, f, proof, wrongShape(at))
		}
	}
}

func TestP130Bound(t *testing.T) {
	f := cnf.Formula{Vars: 2, L: []api.Clause{{1, 2}, {-1, 2}, {1, -2}, {-1, -2}}}
	for _, first := range []api.Clause{{}, {1}, {0}, {3}} {
		long := append([]api.Clause{first}, make([]api.Clause, api.MaxClauses)...)
		refuses(t, f, long, api.ErrBound)
	}
	most := append([]api.Clause{{1}}, make([]api.Clause, api.MaxClauses-1)...)
	if l := takes(t, f, most); len(l) != 2 {
		t.Error(l)
	}
	for i := range most {
		most[i] = api.Clause{1}
	}
	refuses(t, f, most, api.ErrProof)
	most[len(most)-1] = nil
	if l := takes(t, f, most); len(l) != 2 {
		t.Error(l)
	}
	most[len(most)-1] = api.Clause{0}
	refuses(t, f, most, wrongShape(len(most)-1))
}

// TestP130Twice: a number that a clause has twice is one number.
func TestP130Twice(t *testing.T) {
	takes(t, cnf.Formula{Vars: 1, L: []api.Clause{{1, 1}, {-1, -1, -1}}}, []api.Clause{{}})
	takes(t, cnf.Formula{Vars: 1, L: []api.Clause{{1}, {-1, -1}}}, []api.Clause{{}})
	takes(t, cnf.Formula{Vars: 3, L: []api.Clause{{1, 2, 1}, {1, -2, 1, -2}, {-1, 3, 3, 3}, {-3, -1, -3, -1}}}, []api.Clause{{1, 1}, {}})
	takes(t, cnf.Formula{Vars: 3, L: []api.Clause{{1, 2}, {1, -2}, {-1, 3}, {-1, -3}}}, []api.Clause{{2, 1, 1, 2}, {1, 1}, {}})
	refuses(t, cnf.Formula{Vars: 2, L: []api.Clause{{1, 1, 2, 2}, {-1, -1, 2}}}, []api.Clause{{2, 2}, {2, 1, 2}, {1, 1}}, noProof(2))
}

// TestP130Turned: a clause that has a variable and it turned follows always, and nothing from it.
func TestP130Turned(t *testing.T) {
	for _, c := range []api.Clause{{1, -1}, {-1, 1}, {2, 1, -2}, {1, 1, -1}, {3, 2, -1, -3}, {-3, -3, 3, 3}} {
		refuses(t, cnf.Formula{Vars: 3}, []api.Clause{c}, api.ErrProof)
		refuses(t, cnf.Formula{Vars: 3}, []api.Clause{c, {1}}, noProof(1))
		for _, n := range []int{1, -1, 2, -2, 3, -3} {
			refuses(t, cnf.Formula{Vars: 3, L: []api.Clause{c}}, []api.Clause{c, {n}}, noProof(1))
			refuses(t, cnf.Formula{Vars: 3, L: []api.Clause{c, {n}}}, []api.Clause{c, {n}, c, {-n}}, noProof(3))
			refuses(t, cnf.Formula{Vars: 3, L: []api.Clause{{n}, c}}, []api.Clause{c, {n}, {}}, noProof(2))
		}
	}
}

// TestP130Chain: what follows may be long.
func TestP130Chain(t *testing.T) {
	f := cnf.Formula{Vars: api.MaxVars}
	for n := 1; n < f.Vars; n++ {
		f.L = append(f.L, api.Clause{-n, n + 1})
	}
	refuses(t, f, []api.Clause{{-1, f.Vars}, {-2, f.Vars - 1}, {1, -1}, {1, -f.Vars}}, noProof(3))
	last := api.Clause{-f.Vars}
	f.L = append(f.L, last)
	proof := []api.Clause{{-1}, {-f.Vars / 2}, {}}
	refuses(t, f, proof, noProof(2))
	f.L = append(f.L, api.Clause{1, 2})
	if l := takes(t, f, proof); len(l) != 1 {
		t.Error(l)
	}
	slices.Reverse(f.L)
	if l := takes(t, f, proof); len(l) != 1 {
		t.Error(l)
	}
}

// TestP130Wide: all variables in one clause, of which one after the other becomes false.
func TestP130Wide(t *testing.T) {
	f := cnf.Formula{Vars: api.MaxVars, L: []api.Clause{{}}}
	var proof []api.Clause
	for n := 1; n <= f.Vars; n++ {
		f.L[0] = append(f.L[0], n)
		if n%2 == 0 {
			f.L = append(f.L, api.Clause{-n, 1}, api.Clause{-n, -1})
		} else {
			f.L = append(f.L, api.Clause{-n, 2}, api.Clause{-n, -2})
		}
		proof = append(proof, api.Clause{-n})
	}
	proof = append(proof, api.Clause{})
	takes(t, f, proof)
	wide := f.L[0]
	f.L[0], f.L[len(f.L)-1] = f.L[len(f.L)-1], wide
	takes(t, f, proof)
	takes(t, f, append([]api.Clause{wide}, proof...))
	refuses(t, cnf.Formula{Vars: f.Vars, L: f.L[:len(f.L)-1]}, proof, noProof(len(proof)-1))
	f.L = []api.Clause{wide}
	refuses(t, f, append([]api.Clause{wide}, wide[1:]), noProof(1))
}

// TestP130Searched: proofs that a search finds, which are long enough that clauses rest.
func TestP130Searched(t *testing.T) {
	r := rand.New(rand.NewSource(130))
	longest := 0
	formulas := []cnf.Formula{put(1, 0), put(2, 1), put(5, 4), put(6, 5), put(7, 6), put(8, 7), beside(put(5, 4), put(4, 4)), drawnClauses(r, 200, 900, 3)}
	for range 30 {
		formulas = append(formulas, drawnClauses(r, 20+r.Intn(100), 600, 3))
	}
	for i, f := range formulas {
		a, err := sat.Solve(f, api.MaxEffort)
		if err != nil || a.Kind == "tired" || i < 7 && a.Kind != "no" {
			t.Fatal(i, a.Kind, err)
		}
		if a.Kind == "no" {
			takes(t, f, a.Proof)
			longest = max(longest, len(a.Proof))
		}
	}
	if longest < 3*firstPart {
		t.Error(longest)
	}
}

// TestP130Resting: clauses that have not been of use for long are of use still.
func TestP130Resting(t *testing.T) {
	f := put(5, 4)
	a, err := sat.Solve(f, 100000)
	if a.Kind != "no" || err != nil || len(a.Proof) < 10 {
		t.Fatal(a, err)
	}
	half := len(a.Proof) / 2
	for _, other := range []cnf.Formula{put(8, 7), put(8, 8)} {
		all := beside(f, other)
		long := drawnProof(rand.New(rand.NewSource(131)), other, 4*firstPart)
		proof := slices.Concat(a.Proof[:half], further(long, f.Vars), a.Proof[half:])
		k, err := goThrough(all, proof, func([]int32) {})
		if err != nil || k.due < len(all.L)+3*firstPart || len(k.tiers[resting].watches) == 0 {
			t.Fatal(err, k)
		}
		l := takes(t, all, proof)
		for _, c := range l {
			if slices.ContainsFunc(c, func(n int) bool { return variable(n) > f.Vars }) {
				t.Fatal(c)
			}
		}
		// without one that is needed it is none
		gone := slices.Concat(a.Proof[1:half], further(long, f.Vars), a.Proof[half:])
		if want := secondCheck(f, a.Proof[1:]); want == nil || !errorIsFurther(Check(all, gone), want, half-1, len(long)) {
			t.Error(want, Check(all, gone))
		}
	}
}

// TestP130InUse: of clauses that have long been there, those that have been of use are looked at first.
func TestP130InUse(t *testing.T) {
	f := put(8, 8)
	all := beside(cnf.Formula{Vars: 4, L: []api.Clause{{1, 2, 3}, {1, 2, -3}, {1, -2, 3}, {1, -2, -3}}}, f)
	k := newChecker(all)
	proof := append([]api.Clause{{1, 2}, {1, 2, 4}}, further(drawnProof(rand.New(rand.NewSource(130)), f, 4*firstPart), 4)...)
	for i, c := range proof {
		if !k.follows(c, func([]int32) {}) || i%100 == 1 && !k.follows(api.Clause{1}, func([]int32) {}) {
			t.Fatal(i, c)
		}
		k.add(c)
	}
	for i, want := range []int{inUse, resting} {
		for tier := range k.tiers {
			if isWatched(k.tiers[tier], len(all.L)+i) != (tier == want) {
				t.Error(i, tier)
			}
		}
	}
}

// isWatched: does a clause stand in a tier?
func isWatched(t tier, clause int) bool {
	for _, l := range t.watches {
		if slices.ContainsFunc(l, func(w watch) bool { return int(w.clause) == clause }) {
			return true
		}
	}
	return false
}

// errorIsFurther: an error At a place which is so many further on, if it is at least so far.
func errorIsFurther(err, want error, from, by int) bool {
	f, ok := want.(*api.Fault)
	if !ok {
		return err == want
	}
	at := f.At
	if at >= from {
		at += by
	}
	return isFault(err, f.Err, at)
}

// drawnProof: clauses that follow by units, but no end: each is what a clause says where one of its numbers is taken out of another clause.
func drawnProof(r *rand.Rand, f cnf.Formula, size int) []api.Clause {
	with := map[int][]api.Clause{}
	for _, c := range f.L {
		for _, n := range c {
			with[n] = append(with[n], c)
		}
	}
	var l []api.Clause
	for len(l) < size {
		c := f.L[r.Intn(len(f.L))]
		n := c[r.Intn(len(c))]
		if len(with[-n]) == 0 {
			continue
		}
		d := with[-n][r.Intn(len(with[-n]))]
		var made api.Clause
		for _, m := range slices.Concat(c, d) {
			if m != n && m != -n {
				made = append(made, m)
			}
		}
		l = append(l, made)
	}
	return l
}
