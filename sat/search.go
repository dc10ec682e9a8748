package sat

import (
	"math"

	"lustrum/cnf"
)

// What a run ends with.
const (
	yes = iota
	no
	tired
)

const (
	endless = math.MaxInt // of conflicts
	none    = -1          // of clauses, and of places
)

// search for values with which all clauses hold. A literal is twice its variable's number, from 0 on, plus 1 if it is turned. What is set is a guess, or follows from what was set ahead of it; a guess is a level, with all that follows; what follows from no guess is level 0.
type search struct {
	clauses   [][]int32 // those of the formula, then lemmas, in the order in which they were found
	given     int       // how many of them are of the formula
	broken    int32     // the clause that is false where nothing can be taken back
	watches   [][]watch // of each literal, the clauses that have it first or second
	values    []int8    // of each literal: 1: it holds, -1: it does not, 0: it is open
	levels    []int32   // of each variable that is set
	reasons   []int32   // of each variable that is set: the clause from which it follows
	phases    []int8    // of each variable: 1 if it is guessed to be false, as it was last
	trail     []int32   // literals that hold, in the order in which they were set
	spread    int       // of how many of them all that follows has been set
	starts    []int32   // of each guess its place in trail
	floor     int       // levels up to this one stay, until turn takes the last one
	conflicts int
	order
	lessons
	pace
}

// newSearch, which guesses variables to be such first.
func newSearch(f cnf.Formula, phase int8) *search {
	n := f.Vars
	s := &search{broken: none, watches: make([][]watch, 2*n), values: make([]int8, 2*n)}
	s.levels, s.reasons, s.phases = make([]int32, n), make([]int32, n), make([]int8, n)
	for v := range n {
		s.phases[v] = phase
	}
	s.order, s.lessons, s.pace = newOrder(n), newLessons(n), newPace()
	s.load(f)
	return s
}

// run until all variables are set, or a clause is false though no guess above the floor is left, or there would be more conflicts than the limit.
func (s *search) run(limit int) int {
	for s.broken == none {
		c := s.goOn()
		switch {
		case c != none && len(s.starts) == s.floor:
			s.broken = c
		case c != none && s.conflicts >= limit:
			return tired
		case c != none:
			s.learn(c)
		case s.isLost():
			s.anew()
		case !s.guess():
			return yes
		}
	}
	return no
}

// set a literal that is open.
func (s *search) set(x, reason int32) {
	s.values[x], s.values[x^1] = 1, -1
	s.levels[x>>1], s.reasons[x>>1] = int32(len(s.starts)), reason
	s.trail = append(s.trail, x)
}

// undo all levels above this one.
func (s *search) undo(level int) {
	if len(s.starts) <= level {
		return
	}
	start := int(s.starts[level])
	for _, x := range s.trail[start:] {
		s.values[x], s.values[x^1] = 0, 0
		s.phases[x>>1] = int8(x & 1)
		s.push(x >> 1)
	}
	s.trail, s.starts, s.spread = s.trail[:start], s.starts[:level], start
}

// guess the next variable, if one is open.
func (s *search) guess() bool {
	for len(s.heap) > 0 {
		v := s.pop()
		if x := 2*v + int32(s.phases[v]); s.values[x] == 0 {
			s.starts = append(s.starts, int32(len(s.trail)))
			s.set(x, none)
			return true
		}
	}
	return false
}

// turn the last guess, if there is one: with it all has been gone through, and it is never made again.
func (s *search) turn() bool {
	if len(s.starts) == 0 {
		return false
	}
	s.floor = len(s.starts) - 1
	x := s.trail[s.starts[s.floor]]
	s.undo(s.floor)
	s.set(x^1, none)
	s.broken = none
	return true
}

// model: of each variable whether it holds.
func (s *search) model() []bool {
	l := make([]bool, len(s.levels))
	for v := range l {
		l[v] = s.values[2*v] > 0
	}
	return l
}
