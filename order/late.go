package order

import (
	"lustrum/flat"
	"lustrum/tree"
)

// latest stands for all that is late by as much, and more.
const latest = 2

// latesOf the flows of a program, by their names; inputs are not in it, so that they are late by 0.
func latesOf(p flat.Program) (map[string]int, error) {
	order, err := Order(p)
	if err != nil {
		return nil, err
	}
	lates := map[string]int{}
	// From 0 on numbers only grow, since those of terms grow with those of their parts: where nothing grows any more they are the least that hold.
	for grown := true; grown; {
		grown = false
		for _, i := range order {
			f := p.L[i]
			if late := lateOf(f.E, lates); late > lates[f.Name] {
				lates[f.Name] = late
				grown = true
			}
		}
	}
	return lates, nil
}

// lateOf a term, where flows are late by these.
func lateOf(e tree.Expr, lates map[string]int) int {
	late := func(i int) int { return lateOf(e.L[i], lates) }
	switch e.Op {
	case "name":
		return lates[e.S]
	case "pre":
		return ago(late(0))
	case "->":
		return behind(late(0), late(1))
	case "fby":
		return behind(late(0), ago(late(1)))
	}
	most := 0
	for i := range e.L {
		most = max(most, late(i))
	}
	return most
}

// ago is how late that is which a term had an instant ago.
func ago(late int) int { return min(late+1, latest) }

// behind is how late that is which has its first value from one term, the others from another: the first value of the other one is not seen.
func behind(first, rest int) int {
	if rest == latest {
		return latest
	}
	return first
}
