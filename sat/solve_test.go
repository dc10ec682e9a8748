package sat

import (
	"fmt"
	"math"
	"math/rand"
	"slices"
	"testing"

	"lustrum/api"
	"lustrum/cnf"
	"lustrum/graph"
)

func TestP120Kinds(t *testing.T) {
	for _, c := range []struct {
		vars int
		l    []api.Clause
		kind string
	}{
		{0, nil, "yes"},
		{0, []api.Clause{}, "yes"},
		{0, []api.Clause{{}}, "no"},
		{0, []api.Clause{nil, nil}, "no"},
		{1, nil, "yes"},
		{1, []api.Clause{{}}, "no"},
		{1, []api.Clause{{1}}, "yes"},
		{1, []api.Clause{{-1}}, "yes"},
		{1, []api.Clause{{1}, {-1}}, "no"},
		{1, []api.Clause{{-1}, {1}, {}}, "no"},
		{1, []api.Clause{{1}, {1}, {1}}, "yes"},
		{1, []api.Clause{{1, -1}}, "yes"},
		{1, []api.Clause{{1, -1}, {-1}}, "yes"},
		{1, []api.Clause{{1, 1}}, "yes"},
		{1, []api.Clause{{-1, -1, -1}}, "yes"},
		{1, []api.Clause{{1, 1}, {-1, -1}}, "no"},
		{1, []api.Clause{{1, 1, 1}, {-1}}, "no"},
		{2, []api.Clause{{1, -1}, {2, 2}}, "yes"},
		{2, []api.Clause{{1, 2}, {-1}, {-2, 1}}, "no"},
		{2, []api.Clause{{1, 2}, {-1, 2}, {1, -2}}, "yes"},
		{2, []api.Clause{{1, 2}, {-1, 2}, {1, -2}, {-1, -2}}, "no"},
		{2, []api.Clause{{1, 2, 1}, {-1, 2, 2}, {1, -2, 1, -2}, {-1, -1, -2, -2}}, "no"},
		{2, []api.Clause{{1, 1, 2, 2}, {2, -1, -1}, {-2, -2}}, "no"},
		{2, []api.Clause{{1, 2, -2}, {-1, 2, 1}, {-2}, {-1}}, "yes"},
		{3, []api.Clause{{1, 2}, {-1, 3}, {-2, 3}}, "yes"},
		{3, []api.Clause{{1, 2}, {-1, 3}, {-2, 3}, {-3}}, "no"},
		{3, []api.Clause{{3, 2, 1}, {-1, -2, -3}, {1, -2}, {2, -3}, {3, -1}}, "no"},
		{9, []api.Clause{{9}, {-9, 8}, {-8, 7}, {-7, 1}, {-1, -9, 2}, {-2, -7}}, "no"},
	} {
		f := cnf.Formula{Vars: c.vars, L: c.l}
		for _, effort := range []int{1 << c.vars, 1000, 99999, 100000, api.MaxEffort} {
			solve(t, f, effort, c.kind)
		}
		if a, err := Solve(f, 0); err != nil || a.Kind != c.kind && a.Kind != "tired" {
			t.Errorf("%v: %v, %v", f, a, err)
		}
	}
}

// TestP120Units: what follows from no guess takes no conflict, whatever the effort.
func TestP120Units(t *testing.T) {
	f := cnf.Formula{Vars: api.MaxVars}
	for n := 1; n < f.Vars; n++ {
		f.L = append(f.L, api.Clause{-n, n + 1})
	}
	f.L = append(f.L, api.Clause{1})
	if a := solve(t, f, 0, "yes"); slices.Contains(a.Model, false) {
		t.Error("some do not hold")
	}
	f.L = append(f.L, api.Clause{-f.Vars, -1})
	if a := solve(t, f, 0, "no"); len(a.Proof) != 1 {
		t.Error(a.Proof)
	}
}

func TestP120Wide(t *testing.T) {
	solve(t, cnf.Formula{Vars: api.MaxVars}, 0, "yes")
	solve(t, cnf.Formula{Vars: api.MaxVars, L: make([]api.Clause, api.MaxClauses)}, 0, "no")
	// all variables in one clause, and all of them false
	f := cnf.Formula{Vars: api.MaxVars, L: []api.Clause{{}}}
	for n := range f.Vars {
		f.L[0] = append(f.L[0], n+1)
		f.L = append(f.L, api.Clause{-n - 1})
	}
	solve(t, f, 0, "no")
	f.L[1000] = api.Clause{1000}
	solve(t, f, 0, "yes")
	solve(t, drawnLarge(rand.New(rand.NewSource(120)), api.MaxVars, 300000), 100000, "yes")
}

// drawnLarge: clauses of three numbers.
func drawnLarge(r *rand.Rand, vars, clauses int) cnf.Formula {
	f := cnf.Formula{Vars: vars}
	for range clauses {
		c := make(api.Clause, 3)
		for i := range c {
			c[i] = signed(1+r.Intn(vars), r.Intn(2) == 1)
		}
		f.L = append(f.L, c)
	}
	return f
}

func TestP120CheckFirst(t *testing.T) {
	for _, effort := range []int{-1, 0, 5, api.MaxEffort, api.MaxEffort + 1} {
		for _, f := range []cnf.Formula{{Vars: -1}, {Vars: api.MaxVars + 1, L: []api.Clause{{0}}}, {Vars: math.MinInt}, {Vars: math.MaxInt}, {L: make([]api.Clause, api.MaxClauses+1)}} {
			if a, err := Solve(f, effort); !isZero(a) || err != api.ErrBound {
				t.Error(f.Vars, effort, a, err)
			}
		}
		for at, f := range []cnf.Formula{{L: []api.Clause{{1}}}, {Vars: 1, L: []api.Clause{{1}, {0}}}, {Vars: 2, L: []api.Clause{{}, {-2}, {1, -3}, {0}}}, {Vars: 2, L: []api.Clause{{}, {}, {}, {math.MinInt}}}} {
			if a, err := Solve(f, effort); !isZero(a) || !isFault(err, api.ErrShape, at) {
				t.Error(f, effort, a, err)
			}
		}
	}
}

func isZero(a Answer) bool { return a.Kind == "" && len(a.Model) == 0 && len(a.Proof) == 0 }

func TestP120Effort(t *testing.T) {
	for _, effort := range []int{-1, api.MaxEffort + 1, math.MinInt, math.MaxInt} {
		for _, f := range []cnf.Formula{{}, {L: []api.Clause{{}}}, {Vars: 2, L: []api.Clause{{1, 2}}}} {
			if a, err := Solve(f, effort); !isZero(a) || err != api.ErrBound {
				t.Error(effort, a, err)
			}
		}
	}
	solve(t, cnf.Formula{}, 0, "yes")
	solve(t, cnf.Formula{}, api.MaxEffort, "yes")
}

// TestP120Tired: only behind as many conflicts; a greater effort answers as a lesser one that was not tired.
func TestP120Tired(t *testing.T) {
	f := put(8, 7)
	for _, effort := range []int{0, 1, 2, 10, 1000} {
		solve(t, f, effort, "tired")
		s := newSearch(f, 1)
		if s.run(effort) != tired || s.conflicts < effort {
			t.Error(effort, s.conflicts)
		}
	}
	s := newSearch(f, 1)
	if s.run(endless) != no || s.conflicts < 1000 {
		t.Fatal(s.conflicts)
	}
	solve(t, f, s.conflicts-1, "tired")
	solve(t, f, s.conflicts, "no")
	solve(t, f, s.conflicts+1, "no")
}

// TestP120SmallEffort: 2 to the number of variables is always enough, and one fewer may be too few.
func TestP120SmallEffort(t *testing.T) {
	for n := range 13 {
		solve(t, full(n), 1<<n, "no")
		f := full(n)
		f.L = slices.Delete(f.L, 1<<n/3, 1<<n/3+1)
		solve(t, f, 1<<n, "yes")
	}
	r := rand.New(rand.NewSource(121))
	for range 300 {
		n := 3 + r.Intn(10)
		f := drawnClauses(r, n, n*(3+r.Intn(5)), 3)
		kind := "no"
		if modelsOf(f) > 0 {
			kind = "yes"
		}
		solve(t, f, 1<<n, kind)
	}
}

// TestP120Limit: where it must not be tired it goes on.
func TestP120Limit(t *testing.T) {
	for _, c := range []struct{ vars, clauses, effort, want int }{
		{0, 0, 0, 0}, {0, 0, 1, endless}, {0, 9, 1, endless}, {1, 1, 1, 1}, {1, 1, 2, endless}, {10, 5000, 1023, 1023}, {10, 5000, 1024, endless}, {10, 5000, 1025, endless},
		{19, 9, 1<<19 - 1, endless}, {19, 201, 1<<19 - 1, 1<<19 - 1}, {19, 201, 1 << 19, endless}, {20, 201, api.MaxEffort, api.MaxEffort},
		{40, 200, 99999, 99999}, {40, 200, 100000, endless}, {40, 200, api.MaxEffort, endless}, {41, 200, api.MaxEffort, api.MaxEffort}, {40, 201, api.MaxEffort, api.MaxEffort}, {64, 9, 1, 1}, {api.MaxVars, 9, api.MaxEffort, api.MaxEffort},
	} {
		f := cnf.Formula{Vars: c.vars, L: make([]api.Clause, c.clauses)}
		if got := limitOf(f, c.effort); got != c.want {
			t.Errorf("%+v: %d", c, got)
		}
	}
}

// TestP120Forty: formulas of at most 40 variables and 200 clauses that take long.
func TestP120Forty(t *testing.T) {
	r := rand.New(rand.NewSource(122))
	for range 3 {
		for _, f := range []cnf.Formula{parity(r, 26, 3), parity(r, 20, 4), parity(r, 12, 5)} {
			if f.Vars > 40 || len(f.L) > 200 {
				t.Fatal(f.Vars, len(f.L))
			}
			if a, err := Solve(f, 100000); a.Kind != "no" || err != nil {
				t.Fatal(a.Kind, err)
			}
		}
	}
	solve(t, parity(r, 16, 3), 100000, "no")
	solve(t, parity(r, 10, 4), 100000, "no")
	solve(t, put(6, 5), 100000, "no")
	solve(t, put(6, 6), 100000, "yes")
	seen := map[string]int{}
	for i := range 200 {
		f := drawnClauses(r, 40, 200-i/4, 3)
		a, err := Solve(f, 100000)
		if err != nil || a.Kind == "tired" {
			t.Fatal(a.Kind, err)
		}
		right(t, f, a)
		seen[a.Kind]++
	}
	if seen["yes"] < 20 || seen["no"] < 20 {
		t.Error(seen)
	}
}

// TestP120Harder: lemmas go, weights are lightened, and it begins anew; the proof is one still.
func TestP120Harder(t *testing.T) {
	s := newSearch(put(8, 7), 1)
	if s.run(endless) != no || s.drops < 1 || s.conflicts < firstDrop || s.since == s.conflicts {
		t.Error(s.drops, s.conflicts, s.since)
	}
	if proof := s.proof(); !newChecker(put(8, 7)).takes(proof) {
		t.Error(len(proof))
	}
	solve(t, put(8, 8), 1000, "yes")
	r := rand.New(rand.NewSource(123))
	seen := map[string]int{}
	for range 12 {
		f := drawnClauses(r, 120, 510, 3)
		a, err := Solve(f, api.MaxEffort)
		if err != nil || a.Kind == "tired" {
			t.Fatal(a.Kind, err)
		}
		right(t, f, a)
		seen[a.Kind]++
	}
	if seen["yes"] < 2 || seen["no"] < 2 {
		t.Error(seen)
	}
}

// TestP120Words: what holds of all ints has no counterexample, and a number is taken apart.
func TestP120Words(t *testing.T) {
	w := words{new(graph.Graph)}
	x, y := w.in(), w.in()
	sum := w.of("-", w.of("+", x, y), y)
	solve(t, w.formula(w.of("=", sum, x)[0]^1), api.MaxEffort, "no")
	twice := w.of("*", w.number(2), x)
	solve(t, w.formula(w.of("=", twice, w.of("+", x, x))[0]^1), api.MaxEffort, "no")
	solve(t, w.formula(w.of("=", twice, w.number(77))[0]), api.MaxEffort, "no")
	solve(t, w.formula(w.of("=", w.of("*", x, y), w.number(77))[0]), api.MaxEffort, "yes")
	rest := w.of("mod", x, w.number(7))
	solve(t, w.formula(w.of("<", w.number(6), rest)[0]), api.MaxEffort, "no")
	solve(t, w.formula(w.of("=", w.number(6), rest)[0]), api.MaxEffort, "yes")
}

// TestP120LongProof: a proof of too many clauses is none: it goes on until there is a shorter one, or the effort is spent.
func TestP120LongProof(t *testing.T) {
	f := put(6, 5)
	s := newSearch(f, 1)
	if s.run(endless) != no {
		t.Fatal("it can be")
	}
	size := len(s.proof())
	if size < 20 || s.conflicts >= 1000 {
		t.Fatal(size, s.conflicts)
	}
	for _, most := range []int{0, 1, 10, size - 1, size, size + 1} {
		for _, effort := range []int{s.conflicts, 1000, 100000} {
			a := solved(f, effort, most)
			right(t, f, a)
			if len(a.Proof) > most || most >= size && (a.Kind != "no" || len(a.Proof) != size) || most <= 10 && a.Kind != "tired" {
				t.Error(most, effort, a.Kind, len(a.Proof))
			}
		}
	}
	if a := solved(cnf.Formula{L: []api.Clause{{}}}, 0, 0); a.Kind != "tired" {
		t.Error(a)
	}
}

// TestP120OtherSide: the second search guesses the other way.
func TestP120OtherSide(t *testing.T) {
	f := cnf.Formula{Vars: 3, L: []api.Clause{{1, -2}}}
	for phase, want := range []string{"[true true true]", "[false false false]"} {
		s := newSearch(f, int8(phase))
		if got := fmt.Sprint(s.run(0), s.model()); got != "0 "+want {
			t.Error(phase, got)
		}
	}
}

// TestP120Shorter: a proof of the second search counts, where that of the first one is too long.
func TestP120Shorter(t *testing.T) {
	r := rand.New(rand.NewSource(129))
	shorter := 0
	for range 60 {
		f := drawnClauses(r, 20, 120, 3)
		var sizes []int
		for _, phase := range []int8{1, 0} {
			s := newSearch(f, phase)
			if s.run(endless) == no {
				sizes = append(sizes, len(s.proof()))
			}
		}
		if len(sizes) == 2 && sizes[1] < sizes[0] {
			shorter++
			if a := solved(f, 100000, sizes[1]); a.Kind != "no" || len(a.Proof) != sizes[1] {
				t.Error(a.Kind, len(a.Proof), sizes)
			}
		}
	}
	if shorter < 10 {
		t.Error(shorter)
	}
}

// TestP120Needed: lemmas of a part that has nothing to do with the end are not told.
func TestP120Needed(t *testing.T) {
	f := drawnClauses(rand.New(rand.NewSource(126)), 100, 400, 3)
	solve(t, f, 100000, "yes")
	for _, c := range put(5, 4).L {
		d := api.Clause{}
		for _, n := range c {
			d = append(d, signed(f.Vars+max(n, -n), n < 0))
		}
		f.L = append(f.L, d)
	}
	f.Vars += put(5, 4).Vars
	s := newSearch(f, 1)
	if s.run(endless) != no {
		t.Fatal("it can be")
	}
	proof, lemmas := s.proof(), len(s.clauses)-s.given
	if lemmas < 50 || len(proof) > lemmas/2 || !newChecker(f).takes(proof) {
		t.Error(len(proof), lemmas)
	}
}
