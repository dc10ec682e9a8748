package rup

import (
	"math/rand"
	"slices"
	"testing"

	"lustrum/api"
	"lustrum/cnf"
	"lustrum/sat"
)

// secondFollows is P130's words: over and over, all clauses are gone through. Numbers are a set.
func secondFollows(clauses []api.Clause, c api.Clause) bool {
	isFalse := map[int]bool{}
	for _, n := range c {
		if slices.Contains(c, -n) {
			return true
		}
		isFalse[n] = true
	}
	for before := -1; before < len(isFalse); {
		before = len(isFalse)
		for _, d := range clauses {
			one, more := 0, false
			for _, n := range d {
				if !isFalse[n] {
					more = more || one != 0 && one != n
					one = n
				}
			}
			if one == 0 {
				return true
			}
			if !more {
				isFalse[-one] = true
			}
		}
	}
	return false
}

// secondCheck is Check by the document's words.
func secondCheck(f cnf.Formula, proof []api.Clause) error {
	if err := cnf.Check(f); err != nil {
		return err
	}
	if len(proof) > 500000 {
		return api.ErrBound
	}
	clauses := slices.Clone(f.L)
	end := false
	for i, c := range proof {
		for _, n := range c {
			if n == 0 || n > f.Vars || n < -f.Vars {
				return wrongShape(i)
			}
		}
		if !secondFollows(clauses, c) {
			return noProof(i)
		}
		clauses = append(clauses, c)
		end = end || len(c) == 0
	}
	if !end {
		return api.ErrProof
	}
	return nil
}

// seen counts what games have shown.
type seen struct {
	taken, refused, wrong, endless, noFormula int
	kept, gone, long                          int
}

// game of choices.
type game struct {
	choices []byte
}

func (p *game) choose(n int) int {
	if len(p.choices) == 0 {
		return 0
	}
	c := int(p.choices[0])
	p.choices = p.choices[1:]
	return c % n
}

// clause of choices: now and then with a number that is none, or comes twice, or turned too.
func (p *game) clause(vars, size int) api.Clause {
	c := api.Clause{}
	for range size {
		x := p.choose(255)
		n := 1 + x/2%max(vars, 1)
		if x == 254 && p.choose(8) == 7 {
			n = vars + 1
		}
		c = append(c, signed(n, x%2 == 1))
	}
	return c
}

// clauses of choices: a formula, and what may be a proof of it: those that do not follow stand in it only now and then.
func (p *game) clauses() (cnf.Formula, []api.Clause) {
	f := cnf.Formula{Vars: p.choose(9)}
	least := 1 + p.choose(3)
	for range (2 + p.choose(10)) * f.Vars {
		f.L = append(f.L, p.clause(f.Vars, least+p.choose(2)))
	}
	if f.Vars == 0 && p.choose(2) == 0 {
		f.L = append(f.L, nil)
	}
	var proof []api.Clause
	all := slices.Clone(f.L)
	for len(p.choices) > 0 {
		c := p.clause(f.Vars, p.choose(4))
		if len(c) == 0 && p.choose(3) > 0 {
			c = nil
		}
		if p.choose(60) == 0 || secondFollows(all, c) {
			proof, all = append(proof, c), append(all, c)
		}
	}
	return f, proof
}

// play: what is answered is held against the second Check, and against all that variables can be.
func play(t testing.TB, s *seen, choices []byte) {
	t.Helper()
	p := &game{choices}
	f, proof := p.clauses()
	if s.compare(t, f, proof) && hasModel(f) {
		t.Fatal(f, proof)
	}
}

// compare answers with those of the second Check: is it a proof?
func (s *seen) compare(t testing.TB, f cnf.Formula, proof []api.Clause) bool {
	t.Helper()
	want := secondCheck(f, proof)
	err := Check(f, proof)
	l, bad := Trim(f, proof)
	if !sameError(err, want) || !sameError(bad, want) {
		t.Fatal(f, proof, err, bad, want)
	}
	s.count(f, want)
	if err != nil {
		if len(l) != 0 {
			t.Fatal(f, proof, l)
		}
		return false
	}
	if wrong := secondCheck(f, l); wrong != nil || !isTrimmed(l, proof) {
		t.Fatal(f, proof, l, wrong)
	}
	s.kept += len(l) - 1
	s.gone += len(proof) - len(l)
	if len(l) > 3 {
		s.long++
	}
	return true
}

func (s *seen) count(f cnf.Formula, err error) {
	fault, ok := err.(*api.Fault)
	switch {
	case cnf.Check(f) != nil:
		s.noFormula++
	case err == nil:
		s.taken++
	case !ok:
		s.endless++
	case fault.Err == api.ErrShape:
		s.wrong++
	default:
		s.refused++
	}
}

func drawn(r *rand.Rand, n int) []byte {
	l := make([]byte, n)
	r.Read(l)
	return l
}

func TestP132Second(t *testing.T) {
	r := rand.New(rand.NewSource(132))
	s := new(seen)
	for range 20000 {
		play(t, s, drawn(r, 5+r.Intn(1200)))
	}
	if s.taken < 4000 || s.refused < 2000 || s.wrong < 1500 || s.endless < 1000 || s.noFormula < 250 {
		t.Errorf("only %+v", *s)
	}
	if s.kept < 800 || s.gone < 100000 || s.long < 30 {
		t.Errorf("only %+v", *s)
	}
}

// changed proof: a clause goes, or is put elsewhere, or comes twice, or has a number less, or more, or turned.
func changed(r *rand.Rand, vars int, proof []api.Clause) []api.Clause {
	l := copies(proof)
	i, k := r.Intn(len(l)), r.Intn(len(l))
	c := l[i]
	switch r.Intn(6) {
	case 0:
		return slices.Delete(l, i, i+1)
	case 1:
		l[i], l[k] = l[k], l[i]
	case 2:
		return slices.Insert(l, k, slices.Clone(c))
	case 3:
		if len(c) > 0 {
			j := r.Intn(len(c))
			l[i] = slices.Delete(c, j, j+1)
		}
	case 4:
		l[i] = append(c, signed(1+r.Intn(vars), r.Intn(2) == 1))
	case 5:
		if len(c) > 0 {
			c[r.Intn(len(c))] *= -1
		}
	}
	return l
}

// TestP130Changed: of proofs that a search finds, and that are changed here and there, it is told as by the second Check which ones are proofs still, and where the others fail.
func TestP130Changed(t *testing.T) {
	r := rand.New(rand.NewSource(131))
	s := new(seen)
	for _, f := range []cnf.Formula{put(4, 3), put(5, 4), drawnClauses(r, 12, 90, 3), drawnClauses(r, 20, 130, 3), drawnClauses(r, 9, 150, 4)} {
		a, err := sat.Solve(f, 100000)
		if err != nil || a.Kind != "no" {
			t.Fatal(a, err)
		}
		for range 1000 {
			proof := a.Proof
			for range 1 + r.Intn(4) {
				proof = changed(r, f.Vars, proof)
			}
			s.compare(t, f, proof)
		}
	}
	if s.taken < 300 || s.refused < 2000 || s.endless < 60 || s.kept < 3000 || s.gone < 300 {
		t.Errorf("only %+v", *s)
	}
}

// TestP132Holds: what holds has no proof, though it be one of what is hardly another formula.
func TestP132Holds(t *testing.T) {
	for _, f := range []cnf.Formula{put(2, 1), put(4, 3), put(5, 4)} {
		a, err := sat.Solve(f, 100000)
		if err != nil || a.Kind != "no" {
			t.Fatal(a, err)
		}
		takes(t, f, a.Proof)
		for i := range f.L {
			less := cnf.Formula{Vars: f.Vars, L: slices.Delete(copies(f.L), i, i+1)}
			if a, err := sat.Solve(less, 100000); err != nil || a.Kind != "yes" {
				t.Fatal(a, err)
			}
			want := secondCheck(less, a.Proof)
			if want == nil {
				t.Fatal(i)
			}
			refuses(t, less, a.Proof, want)
		}
	}
}

func FuzzRup(f *testing.F) {
	r := rand.New(rand.NewSource(133))
	f.Add(drawn(r, 60))
	f.Add(drawn(r, 900))
	f.Fuzz(func(t *testing.T, choices []byte) {
		if len(choices) < 2000 {
			play(t, new(seen), choices)
		}
	})
}
