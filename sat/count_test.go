package sat

import (
	"math"
	"math/rand"
	"testing"

	"lustrum/api"
	"lustrum/cnf"
	"lustrum/graph"
)

func TestP121Count(t *testing.T) {
	for _, c := range []struct {
		vars int
		l    []api.Clause
		want int
	}{
		{0, nil, 1},
		{0, []api.Clause{{}}, 0},
		{1, nil, 2},
		{4, nil, 16},
		{16, nil, 65536},
		{16, []api.Clause{{}}, 0},
		{16, []api.Clause{{7}}, 32768},
		{16, []api.Clause{{7, 7}, {-9, -9}}, 16384},
		{16, []api.Clause{{7}, {-7}}, 0},
		{3, []api.Clause{{1, 2, 3}}, 7},
		{3, []api.Clause{{1, -1}, {2, 3, -2}}, 8},
		{3, []api.Clause{{1, 2}, {-1, 3}, {-2, 3}}, 3},
		{3, []api.Clause{{-1, 2}, {-2, 3}, {-3, 1}}, 2},
		{5, []api.Clause{{1, 1}, {2, 2, -1}}, 8},
		{40, []api.Clause{{1}, {-40}, {-1, 40}}, 0},
	} {
		count(t, cnf.Formula{Vars: c.vars, L: c.l}, c.want)
	}
	count(t, put(3, 2), 0)
	count(t, put(7, 6), 0)
	for n, want := range []int{1, 1, 2, 6, 24, 120, 720, 5040} {
		count(t, put(n, n), want)
	}
	count(t, full(8), 0)
}

func TestP121Most(t *testing.T) {
	for _, f := range []cnf.Formula{{}, {Vars: 3}, {L: []api.Clause{{}}}} {
		for _, most := range []int{-1, maxCount + 1, math.MinInt, math.MaxInt} {
			if n, err := Count(f, most); n != 0 || err != api.ErrBound {
				t.Error(f, most, n, err)
			}
		}
	}
	for n := range 300 {
		count(t, atMost(n, 9), n+1)
	}
	count(t, atMost(99998, 17), 99999)
	count(t, atMost(99999, 17), 100000)
	for _, f := range []cnf.Formula{atMost(100000, 17), {Vars: 17}, {Vars: 64}, {Vars: api.MaxVars}, drawnLarge(rand.New(rand.NewSource(125)), 10000, 20000)} {
		for _, most := range []int{0, 1, 99999, 100000} {
			if n, err := Count(f, most); n != 0 || err != api.ErrBound {
				t.Error(f.Vars, most, n, err)
			}
		}
	}
}

func TestP121CheckFirst(t *testing.T) {
	for _, most := range []int{-1, 0, 100, maxCount, maxCount + 1} {
		for _, f := range []cnf.Formula{{Vars: -1}, {Vars: api.MaxVars + 1, L: []api.Clause{{0}}}, {L: make([]api.Clause, api.MaxClauses+1)}} {
			if n, err := Count(f, most); n != 0 || err != api.ErrBound {
				t.Error(f.Vars, most, n, err)
			}
		}
		for at, f := range []cnf.Formula{{L: []api.Clause{{1}}}, {Vars: 1, L: []api.Clause{{1}, {0}}}, {Vars: 2, L: []api.Clause{{}, {-2}, {1, -3}, {0}}}} {
			if n, err := Count(f, most); n != 0 || !isFault(err, api.ErrShape, at) {
				t.Error(f, most, n, err)
			}
		}
	}
}

// TestP121Chain: as many models as there are variables, and one, though all hang together.
func TestP121Chain(t *testing.T) {
	for _, turned := range []bool{false, true} {
		f := cnf.Formula{Vars: 800}
		for n := 1; n < f.Vars; n++ {
			f.L = append(f.L, api.Clause{signed(n, !turned), signed(n+1, turned)})
		}
		count(t, f, 801)
	}
}

// TestP121Words: as many models as there are ints that do, since all gates hang on them.
func TestP121Words(t *testing.T) {
	w := words{new(graph.Graph)}
	x, y := w.in(), w.in()
	both := 0
	for a := range 256 {
		for b := range 256 {
			if a*b%256 == 78 {
				both++
			}
		}
	}
	product := w.formula(w.of("=", w.of("*", x, y), w.number(78))[0])
	count(t, product, both)
	less := w.formula(w.of("<", x, y)[0])
	count(t, less, 256*255/2)
	never := w.formula(w.of("=", w.of("+", x, y), w.of("-", w.of("+", y, x), w.number(1)))[0])
	count(t, never, 0)
}

// TestP121Harder: conflicts within what is gone through for the second time.
func TestP121Harder(t *testing.T) {
	r := rand.New(rand.NewSource(124))
	some := 0
	for range 60 {
		f := drawnClauses(r, 15, 40+r.Intn(20), 3)
		want := modelsOf(f)
		count(t, f, want)
		if want > 5 {
			some++
		}
	}
	if some < 20 {
		t.Error(some)
	}
	s := newSearch(put(8, 8), 1)
	n := 0
	for more := true; more; more = s.turn() {
		if s.run(endless) == yes {
			n++
		}
	}
	if n != 40320 || s.drops < 1 || s.conflicts < firstDrop {
		t.Error(n, s.drops, s.conflicts)
	}
}
