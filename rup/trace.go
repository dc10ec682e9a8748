package rup

// trace back from a clause that is false.
type trace struct {
	from  []int32 // what was met
	seen  []int32 // of each variable: the last trace that met it
	count int32   // traces
}

// sources of a clause that is false: clauses of the proof, by their places there, and, below 0, variables that are set for good, but not by the formula alone. The list is good up to the next call.
func (k *checker) sources(conflict int) []int32 {
	k.count++
	k.from = k.from[:0]
	k.meet(conflict)
	for i := len(k.trail) - 1; i >= k.fixed; i-- {
		if v := variable(k.trail[i]); k.seen[v] == k.count {
			k.meet(int(k.reasons[v]))
		}
	}
	return k.from
}

// meet a clause, and its variables.
func (k *checker) meet(at int) {
	if at == none {
		return
	}
	c := &k.clauses[at]
	c.used = true
	if at >= k.given {
		k.from = append(k.from, int32(at-k.given))
	}
	for _, n := range c.numbers {
		v := variable(n)
		if k.seen[v] == k.count {
			continue
		}
		k.seen[v] = k.count
		if place := int(k.places[v]); place >= k.settled && place < k.fixed {
			k.from = append(k.from, int32(-v))
		}
	}
}

// record of the sources of clauses of a proof.
type record struct {
	from []int32
	ends []int // of each clause where its sources end in from
}

func (r *record) note(sources []int32) {
	r.from = append(r.from, sources...)
	r.ends = append(r.ends, len(r.from))
}

func (r *record) sources(at int32) []int32 {
	start := 0
	if at > 0 {
		start = r.ends[at-1]
	}
	return r.from[start:r.ends[at]]
}

// needed: which of so many clauses of the proof the one comes from that is false for good.
func (r *record) needed(k *checker, clauses int) []bool {
	l := make([]bool, k.vars+clauses) // variables, from the last one on, and then clauses
	var work []int32
	need := func(sources []int32) {
		for _, x := range sources {
			if !l[k.vars+int(x)] {
				l[k.vars+int(x)] = true
				work = append(work, x)
			}
		}
	}
	need(k.sources(k.broken))
	for len(work) > 0 {
		x := work[len(work)-1]
		work = work[:len(work)-1]
		if x < 0 {
			need(k.sources(int(k.reasons[-x])))
		} else {
			need(r.sources(x))
		}
	}
	return l[k.vars:]
}
