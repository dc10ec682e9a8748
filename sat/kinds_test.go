package sat

import (
	"math/rand"

	"lustrum/api"
	"lustrum/cnf"
	"lustrum/graph"
	"lustrum/word"
)

// put so many into so many holes, at most one into each.
func put(things, holes int) cnf.Formula {
	f := cnf.Formula{Vars: things * holes}
	at := func(i, k int) int { return i*holes + k + 1 }
	for i := range things {
		var c api.Clause
		for k := range holes {
			c = append(c, at(i, k))
			for j := range i {
				f.L = append(f.L, api.Clause{-at(i, k), -at(j, k)})
			}
		}
		f.L = append(f.L, c)
	}
	return f
}

// full: each clause that has all variables.
func full(vars int) cnf.Formula {
	f := cnf.Formula{Vars: vars}
	for m := range 1 << vars {
		c := api.Clause{}
		for i, turned := range bitsOf(m, vars) {
			c = append(c, signed(i+1, turned))
		}
		f.L = append(f.L, c)
	}
	return f
}

func signed(n int, turned bool) int {
	if turned {
		return -n
	}
	return n
}

// atMost: the number whose bits the variables are, the lowest first, is at most n.
func atMost(n, bits int) cnf.Formula {
	f := cnf.Formula{Vars: bits}
	for i := range bits {
		if n>>i&1 == 1 {
			continue
		}
		c := api.Clause{-i - 1}
		for j := i + 1; j < bits; j++ {
			if n>>j&1 == 1 {
				c = append(c, -j-1)
			}
		}
		f.L = append(f.L, c)
	}
	return f
}

// drawnClauses of so many numbers each, all of other variables.
func drawnClauses(r *rand.Rand, vars, clauses, size int) cnf.Formula {
	f := cnf.Formula{Vars: vars}
	for range clauses {
		c := api.Clause{}
		for _, v := range r.Perm(vars)[:size] {
			c = append(c, signed(v+1, r.Intn(2) == 1))
		}
		f.L = append(f.L, c)
	}
	return f
}

// drawnEdges: pairs of so many points, each point in so many pairs, no two of them alike.
func drawnEdges(r *rand.Rand, points, pairs int) [][2]int {
	for {
		ends := []int{}
		for p := range points * pairs {
			ends = append(ends, p%points)
		}
		r.Shuffle(len(ends), func(i, j int) { ends[i], ends[j] = ends[j], ends[i] })
		seen := map[[2]int]bool{}
		var l [][2]int
		for i := 0; i < len(ends); i += 2 {
			e := [2]int{min(ends[i], ends[i+1]), max(ends[i], ends[i+1])}
			if e[0] != e[1] && !seen[e] {
				l = append(l, e)
			}
			seen[e] = true
		}
		if len(l) == len(ends)/2 {
			return l
		}
	}
}

// parity: at each point an even number of its edges hold, but at the first one an odd number: each edge counts twice, so that this cannot be.
func parity(r *rand.Rand, points, pairs int) cnf.Formula {
	edges := drawnEdges(r, points, pairs)
	f := cnf.Formula{Vars: len(edges)}
	for p := range points {
		var at []int
		for i, e := range edges {
			if e[0] == p || e[1] == p {
				at = append(at, i+1)
			}
		}
		for m := range 1 << pairs {
			c, odd := api.Clause{}, p == 0
			for i, is := range bitsOf(m, pairs) {
				c = append(c, signed(at[i], is))
				odd = odd != is
			}
			if odd {
				f.L = append(f.L, c)
			}
		}
	}
	return f
}

// words of gates: what is asked of ints, in clauses.
type words struct{ g *graph.Graph }

func (w words) in() []api.Lit {
	var l []api.Lit
	for range api.Bits {
		x, err := w.g.Input()
		if err != nil {
			panic(err)
		}
		l = append(l, x)
	}
	return l
}

func (w words) number(n int) []api.Lit {
	l, err := word.Const(n)
	if err != nil {
		panic(err)
	}
	return l
}

func (w words) of(op string, of ...[]api.Lit) []api.Lit {
	l, _, err := word.Of(w.g, op, of)
	if err != nil {
		panic(err)
	}
	return l
}

func (w words) formula(roots ...api.Lit) cnf.Formula {
	f, _, err := cnf.Of(w.g, roots)
	if err != nil {
		panic(err)
	}
	return f
}
