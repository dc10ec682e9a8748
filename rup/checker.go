package rup

import (
	"lustrum/api"
	"lustrum/cnf"
)

// none, of clauses.
const none = -1

// What a number can be.
const (
	isFalse = -1
	isOpen  = 0
	isTrue  = 1
)

// checker of what follows by units from its clauses. What they make true alone is true for good; what else is set, by a clause that is asked for, is taken back behind it.
type checker struct {
	vars    int
	clauses []clause // those of the formula, then those of the proof
	given   int      // how many of them are of the formula
	broken  int      // the clause that is false for good, from which all follows; or none
	tiers   [tierCount]tier
	due     int     // with how many clauses those of the proof are parted anew
	values  []int8  // of each number, from -vars on
	marks   []int32 // of each number, from -vars on: the last clause that had it, counted from 1
	trail   []int   // numbers that are true, in the order in which they were set
	fixed   int     // how many of them are true for good
	settled int     // how many of them are so by the formula alone
	reasons []int32 // of each variable that is set: the clause that made it so; none: it was taken to be so
	places  []int32 // of each variable that is set: its place in trail
	trace
}

// clause that is not true for good. Numbers that were false for good when it came are the last ones.
type clause struct {
	numbers []int // each of them once
	last    int   // the place where the last number to be watched was found
	used    bool  // since clauses of the proof were parted
}

func newChecker(f cnf.Formula) *checker {
	n := f.Vars
	k := &checker{vars: n, given: len(f.L), broken: none, due: len(f.L) + firstPart}
	k.values, k.marks = make([]int8, 2*n+1), make([]int32, 2*n+1)
	k.reasons, k.places, k.seen = make([]int32, n+1), make([]int32, n+1), make([]int32, n+1)
	for i := range k.tiers {
		k.tiers[i].watches = map[int][]watch{}
	}
	for _, c := range f.L {
		k.add(c)
	}
	k.settled = k.fixed
	return k
}

func variable(n int) int { return max(n, -n) }

func (k *checker) value(n int) int8 { return k.values[k.vars+n] }

// set a number, which is open, to be true.
func (k *checker) set(n, reason int) {
	k.values[k.vars+n], k.values[k.vars-n] = isTrue, isFalse
	v := variable(n)
	k.reasons[v], k.places[v] = int32(reason), int32(len(k.trail))
	k.trail = append(k.trail, n)
}

// takeBack what is not true for good.
func (k *checker) takeBack() {
	for _, n := range k.trail[k.fixed:] {
		k.values[k.vars+n], k.values[k.vars-n] = isOpen, isOpen
	}
	k.trail = k.trail[:k.fixed]
	for i := range k.tiers {
		k.tiers[i].spread = k.fixed
	}
}

// follows a clause by units? What it comes from is told, as long as not all follows.
func (k *checker) follows(c api.Clause, tell func(sources []int32)) bool {
	if k.broken != none {
		return true
	}
	defer k.takeBack()
	for _, n := range c {
		switch k.value(n) {
		case isTrue: // for good, or since the clause has it turned, too: either way nothing will follow from the clause itself
			tell(nil)
			return true
		case isOpen:
			k.set(-n, none)
		}
	}
	conflict := k.goOn()
	tell(k.sources(conflict))
	return conflict != none
}

// add a clause, and what follows from it for good.
func (k *checker) add(c api.Clause) {
	if k.broken != none {
		return
	}
	at := len(k.clauses)
	l, open := k.arranged(c, at+1)
	k.clauses = append(k.clauses, clause{numbers: l, last: 1, used: true})
	switch open {
	case none:
	case 0:
		k.broken = at
	case 1:
		k.set(l[0], at)
		k.broken = k.goOn()
		k.fixed = len(k.trail)
	default:
		k.attach(at, k.tierOf(at))
	}
	if at >= k.due {
		k.part()
	}
}

// arranged numbers of a clause, each one once: those that are open, so many of them, ahead of those that are false. If it is true for good there are none: nothing will ever follow from it.
func (k *checker) arranged(c api.Clause, mark int) (l []int, open int) {
	l = make([]int, 0, len(c))
	for _, n := range c {
		if k.marks[k.vars+n] == int32(mark) {
			continue
		}
		k.marks[k.vars+n] = int32(mark)
		if k.value(n) == isTrue || k.marks[k.vars-n] == int32(mark) {
			return nil, none
		}
		l = append(l, n)
		if k.value(n) == isOpen {
			l[open], l[len(l)-1] = n, l[open]
			open++
		}
	}
	return l, open
}
