package rup

import (
	"errors"
	"math/rand"
	"slices"
	"testing"

	"lustrum/api"
	"lustrum/cnf"
)

// isFault of this kind, at this place, and no error around it.
func isFault(err error, kind error, at int) bool {
	f, ok := err.(*api.Fault)
	return ok && f.At == at && f.Err == kind && errors.Is(err, kind)
}

func sameError(a, b error) bool {
	f, ok := a.(*api.Fault)
	g, also := b.(*api.Fault)
	if ok && also {
		return *f == *g
	}
	return a == b
}

func same(a, b []api.Clause) bool {
	return slices.EqualFunc(a, b, func(c, d api.Clause) bool { return slices.Equal(c, d) })
}

func copies(l []api.Clause) []api.Clause {
	m := make([]api.Clause, len(l))
	for i, c := range l {
		m[i] = slices.Clone(c)
	}
	return m
}

// holds a formula, variables having such values?
func holds(f cnf.Formula, values []bool) bool {
	for _, c := range f.L {
		if !slices.ContainsFunc(c, func(n int) bool { return n > 0 && values[n-1] || n < 0 && !values[-n-1] }) {
			return false
		}
	}
	return true
}

// hasModel, all values being tried?
func hasModel(f cnf.Formula) bool {
	values := make([]bool, f.Vars)
	for m := range 1 << f.Vars {
		for i := range values {
			values[i] = m>>i&1 == 1
		}
		if holds(f, values) {
			return true
		}
	}
	return false
}

func signed(n int, turned bool) int {
	if turned {
		return -n
	}
	return n
}

// put so many into so many holes, at most one into each.
func put(things, holes int) cnf.Formula {
	f := cnf.Formula{Vars: things * holes}
	at := func(i, k int) int { return i*holes + k + 1 }
	for i := range things {
		var c api.Clause
		for k := range holes {
			c = append(c, at(i, k))
			for j := range i {
				f.L = append(f.L, api.Clause{-at(i, k), -at(j, k)})
			}
		}
		f.L = append(f.L, c)
	}
	return f
}

// drawnClauses of so many numbers each, all of other variables.
func drawnClauses(r *rand.Rand, vars, clauses, size int) cnf.Formula {
	f := cnf.Formula{Vars: vars}
	for range clauses {
		c := api.Clause{}
		for _, v := range r.Perm(vars)[:size] {
			c = append(c, signed(v+1, r.Intn(2) == 1))
		}
		f.L = append(f.L, c)
	}
	return f
}

// beside a formula, another one, of other variables, which are so many further on.
func beside(f, other cnf.Formula) cnf.Formula {
	l := copies(f.L)
	return cnf.Formula{Vars: f.Vars + other.Vars, L: append(l, further(other.L, f.Vars)...)}
}

// further on by so many variables.
func further(l []api.Clause, by int) []api.Clause {
	l = copies(l)
	for _, c := range l {
		for i, n := range c {
			c[i] = signed(variable(n)+by, n < 0)
		}
	}
	return l
}

// takes Check a proof, and does Trim make one of it?
func takes(t testing.TB, f cnf.Formula, proof []api.Clause) []api.Clause {
	t.Helper()
	if err := Check(f, proof); err != nil {
		t.Fatalf("%d variables, %d clauses, proof of %d: %v", f.Vars, len(f.L), len(proof), err)
	}
	l, err := Trim(f, proof)
	if err != nil || !isTrimmed(l, proof) {
		t.Fatalf("%d variables, %d clauses, proof of %d: trimmed to %d, %v", f.Vars, len(f.L), len(proof), len(l), err)
	}
	if err := Check(f, l); err != nil {
		t.Fatalf("%d variables, %d clauses, proof of %d: trimmed to %d: %v", f.Vars, len(f.L), len(proof), len(l), err)
	}
	return l
}

// isTrimmed: some clauses of a proof, in their order, and none behind the first one without numbers.
func isTrimmed(l, proof []api.Clause) bool {
	next := 0
	for _, c := range proof {
		if next < len(l) && slices.Equal(l[next], c) {
			next++
		}
		if len(c) == 0 {
			break
		}
	}
	return next == len(l)
}

// refuses a proof both by Check and by Trim?
func refuses(t testing.TB, f cnf.Formula, proof []api.Clause, want error) {
	t.Helper()
	if err := Check(f, proof); !sameError(err, want) {
		t.Errorf("%d variables, %d clauses, proof of %d: %v, want %v", f.Vars, len(f.L), len(proof), err, want)
	}
	if l, err := Trim(f, proof); len(l) != 0 || !sameError(err, want) {
		t.Errorf("%d variables, %d clauses, proof of %d: trimmed to %d, %v, want %v", f.Vars, len(f.L), len(proof), len(l), err, want)
	}
}

func wrongShape(at int) error { return &api.Fault{At: at, Err: api.ErrShape} }

func noProof(at int) error { return &api.Fault{At: at, Err: api.ErrProof} }
