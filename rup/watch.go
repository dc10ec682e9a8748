package rup

// watch of a number: a clause that has it first or second, and another number of it, which spares a look at the clause if it is true.
type watch struct{ clause, other int32 }

// tier of clauses. All that follows by one tier is set ahead of what follows by the next one.
type tier struct {
	watches map[int][]watch // of each number, the clauses that watch it
	spread  int             // of how many numbers in trail what follows has been set
}

// Tiers: long proofs are of clauses that are of use for a while, and then hardly ever.
const (
	ofFormula = iota
	inUse
	resting
	tierCount
)

// firstPart: behind so many clauses of the proof they are parted, and then behind as many again, and some more.
const firstPart = 2000

func (k *checker) tierOf(at int) *tier {
	switch {
	case at < k.given:
		return &k.tiers[ofFormula]
	case k.clauses[at].used:
		return &k.tiers[inUse]
	}
	return &k.tiers[resting]
}

func (k *checker) attach(at int, t *tier) {
	l := k.clauses[at].numbers
	t.watches[l[0]] = append(t.watches[l[0]], watch{int32(at), int32(l[1])})
	t.watches[l[1]] = append(t.watches[l[1]], watch{int32(at), int32(l[0])})
}

// part clauses of the proof anew into those that have been of use since the last time, and the others. Those that are true for good are left out.
func (k *checker) part() {
	k.due = len(k.clauses) + firstPart + (len(k.clauses)-k.given)/16
	k.tiers[inUse].watches, k.tiers[resting].watches = map[int][]watch{}, map[int][]watch{}
	for at := k.given; at < len(k.clauses); at++ {
		c := &k.clauses[at]
		if len(c.numbers) > 1 && k.value(c.numbers[0]) != isTrue && k.value(c.numbers[1]) != isTrue {
			k.attach(at, k.tierOf(at))
		}
		c.used = false
	}
}

// goOn: all that follows from what is set is set, up to a clause that is false.
func (k *checker) goOn() int {
	for i := 0; i < len(k.tiers); {
		t, before := &k.tiers[i], len(k.trail)
		if t.spread == before {
			i++
			continue
		}
		n := k.trail[t.spread]
		t.spread++
		if at := k.look(t, -n); at != none {
			return at
		}
		if len(k.trail) > before {
			i = 0
		}
	}
	return none
}

// look at the clauses of a tier that watch a number, which has become false, up to one that is false.
func (k *checker) look(t *tier, n int) int {
	l := t.watches[n]
	kept := 0
	for i, w := range l {
		if k.value(int(w.other)) == isTrue {
			l[kept] = w
			kept++
			continue
		}
		c := &k.clauses[w.clause]
		first := c.turnTo(n)
		w.other = int32(first)
		value := k.value(first)
		if value != isTrue && k.moved(t, c, w) {
			continue
		}
		l[kept] = w
		kept++
		switch value {
		case isOpen:
			k.set(first, int(w.clause))
		case isFalse:
			kept += copy(l[kept:], l[i+1:])
			t.watches[n] = l[:kept]
			return int(w.clause)
		}
	}
	if kept < len(l) {
		t.watches[n] = l[:kept]
	}
	return none
}

// turnTo a number, which is first or second: it comes second; the other one is told.
func (c *clause) turnTo(n int) int {
	if c.numbers[0] == n {
		c.numbers[0], c.numbers[1] = c.numbers[1], n
	}
	return c.numbers[0]
}

// moved: is there another number that may be watched in place of the second one? It is looked for from where the last one was: numbers ahead of that are false, as a rule, and of a long clause they would be gone through over and over.
func (k *checker) moved(t *tier, c *clause, w watch) bool {
	l := c.numbers
	for range len(l) - 2 {
		if c.last++; c.last == len(l) {
			c.last = 2
		}
		if k.value(l[c.last]) != isFalse {
			l[1], l[c.last] = l[c.last], l[1]
			t.watches[l[1]] = append(t.watches[l[1]], w)
			return true
		}
	}
	return false
}
