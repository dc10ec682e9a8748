package unroll

import (
	"lustrum/api"
	"lustrum/graph"
	"lustrum/trans"
)

// Trap in place of a check's number.
const Trap = -1

// Wrong literals of a system: what holds at an instant at which this check does not hold (of Trap: at one that traps), and what holds at all instants ahead of the first one that is so. The check must be one of the system's.
func Wrong(s trans.System, c int) (last, ahead []api.Lit) {
	goesOn := []api.Lit{graph.Not(s.Trap), s.Assert}
	if c == Trap {
		return []api.Lit{s.Trap}, goesOn
	}
	holds := s.Checks[c]
	return []api.Lit{goesOn[0], goesOn[1], graph.Not(holds)}, append(goesOn, holds)
}
