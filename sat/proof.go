package sat

import "lustrum/api"

// proof that no values do: lemmas that are needed, in the order in which they were found, and the clause without numbers.
func (s *search) proof() []api.Clause {
	needed := s.needed()
	l := []api.Clause{}
	for c := range len(s.clauses) {
		if c >= s.given && needed[c] {
			l = append(l, numbers(s.clauses[c]))
		}
	}
	return append(l, api.Clause{})
}

// needed clauses, at the end of a search: the one that is false, those from which what is set follows, and those from which these follow.
func (s *search) needed() []bool {
	l := make([]bool, len(s.clauses))
	need := func(c int32) {
		if c != none {
			l[c] = true
		}
	}
	need(s.broken)
	for _, x := range s.trail {
		need(s.reasons[x>>1])
	}
	// A lemma follows from those that were found ahead of it, so that one way back comes to all of them.
	for n := len(s.ends) - 1; n > 0; n-- {
		if !l[s.given+n] {
			continue
		}
		for _, c := range s.from[s.ends[n-1]:s.ends[n]] {
			need(c)
		}
	}
	return l
}

// numbers of literals.
func numbers(l []int32) api.Clause {
	c := make(api.Clause, len(l))
	for i, x := range l {
		c[i] = int(x)/2 + 1
		if x&1 == 1 {
			c[i] = -c[i]
		}
	}
	return c
}
