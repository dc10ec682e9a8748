package sat

import (
	"lustrum/api"
	"lustrum/cnf"
)

// watch of a literal: a clause that has it first or second, and another literal of it, which spares a look at the clause if it holds.
type watch struct {
	clause, other int32
}

// load a formula. Clauses that hold whatever is set are left out. Those that have a number twice are lemmas: whoever goes through a proof need not see them as what they are without it.
func (s *search) load(f cnf.Formula) {
	marks := make([]int, 2*f.Vars) // of each literal, the last clause that has it
	var lemmas [][]int32
	for i, c := range f.L {
		l, holds := literals(c, marks, i+1)
		switch {
		case holds:
		case len(l) < len(c):
			lemmas = append(lemmas, l)
		default:
			s.clauses = append(s.clauses, l)
		}
	}
	s.given = len(s.clauses)
	for _, l := range lemmas {
		s.lay(l, 0)
	}
	for c := range int32(len(s.clauses)) {
		s.begin(c)
	}
}

// literals of a clause, each one once; does it hold whatever is set?
func literals(c api.Clause, marks []int, mark int) (l []int32, holds bool) {
	l = make([]int32, 0, len(c))
	for _, n := range c {
		x := 2*n - 2
		if n < 0 {
			x = -2*n - 1
		}
		if marks[x] == mark {
			continue
		}
		marks[x] = mark
		holds = holds || marks[x^1] == mark
		l = append(l, int32(x))
	}
	return l, holds
}

// begin with a clause, ahead of all guesses.
func (s *search) begin(c int32) {
	l := s.clauses[c]
	switch {
	case len(l) > 1:
		s.attach(c)
	case len(l) == 0 || s.values[l[0]] < 0:
		s.broken = c
	case s.values[l[0]] == 0:
		s.set(l[0], c)
	}
}

func (s *search) attach(c int32) {
	a, b := s.clauses[c][0], s.clauses[c][1]
	s.watches[a] = append(s.watches[a], watch{c, b})
	s.watches[b] = append(s.watches[b], watch{c, a})
}

// goOn: all that follows from what is set is set, up to a clause that is false.
func (s *search) goOn() int32 {
	for s.spread < len(s.trail) {
		x := s.trail[s.spread]
		s.spread++
		if c := s.look(x ^ 1); c != none {
			return c
		}
	}
	return none
}

// look at the clauses that watch a literal, which has become false, up to one that is false.
func (s *search) look(x int32) int32 {
	l := s.watches[x]
	kept := 0
	for i := range len(l) {
		w := l[i]
		if s.values[w.other] > 0 {
			l[kept] = w
			kept++
			continue
		}
		c := s.clauses[w.clause]
		if c[0] == x {
			c[0], c[1] = c[1], x
		}
		w.other = c[0]
		if s.values[c[0]] <= 0 && s.moved(c, w) {
			continue
		}
		l[kept] = w
		kept++
		switch s.values[c[0]] {
		case 0:
			s.set(c[0], w.clause)
		case -1:
			kept += copy(l[kept:], l[i+1:])
			s.watches[x] = l[:kept]
			return w.clause
		}
	}
	s.watches[x] = l[:kept]
	return none
}

// moved: is there another literal that may be watched in place of the second one?
func (s *search) moved(c []int32, w watch) bool {
	for i := 2; i < len(c); i++ {
		if s.values[c[i]] >= 0 {
			c[1], c[i] = c[i], c[1]
			s.watches[c[1]] = append(s.watches[c[1]], w)
			return true
		}
	}
	return false
}
