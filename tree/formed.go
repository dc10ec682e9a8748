package tree

import "lustrum/api"

const biggestInt = 1<<(api.Bits-1) - 1

// Formed tells whether a term, what is in its parts aside, is as P20 says: of an Op that there is, with as many parts, and no field that is another Op's.
func Formed(e Expr) bool {
	s, ok := shapeOf(e.Op)
	if e.Op != "call" && (!ok || len(e.L) != len(s.parts)) {
		return false
	}
	switch e.Op {
	case "int":
		return e.N >= 0 && e.N <= biggestInt && e.S == ""
	case "name", "call":
		return e.N == 0
	}
	return e.N == 0 && e.S == ""
}

// Bounded tells whether terms have at most MaxTerms parts in all, each Expr being one.
func Bounded(l []Expr) bool { return count(l, api.MaxTerms) >= 0 }

// count takes the parts of terms from what is left. Below 0 it goes no further: terms that share memory may have more parts than can be gone through.
func count(l []Expr, left int) int {
	left -= len(l)
	for _, e := range l {
		if left < 0 {
			break
		}
		left = count(e.L, left)
	}
	return left
}
