package word

import (
	"slices"

	"lustrum/api"
	"lustrum/graph"
)

func turned(l []api.Lit) []api.Lit {
	out := make([]api.Lit, len(l))
	for i, x := range l {
		out[i] = graph.Not(x)
	}
	return out
}

// sign of a word holds if it is below 0.
func sign(l []api.Lit) api.Lit { return l[len(l)-1] }

func (m maker) choice(c api.Lit, a, b []api.Lit) []api.Lit {
	out := make([]api.Lit, len(a))
	for i := range a {
		out[i] = made(m.If(c, a[i], b[i]))
	}
	return out
}

// unlike words: one of their bits is.
func (m maker) unlike(a, b []api.Lit) api.Lit {
	l := make([]api.Lit, len(a))
	for i := range a {
		l[i] = m.xor(a[i], b[i])
	}
	return m.any(l)
}

// isZero has the gate that = of a word and 0 has, so that a check against 0 tells of a trap at sight.
func (m maker) isZero(l []api.Lit) api.Lit { return graph.Not(m.any(l)) }

// less: the highest bit that is unlike tells; that of the sign does so the other way around.
func (m maker) less(a, b []api.Lit) api.Lit {
	high := len(a) - 1
	x := api.Lit(0)
	for i := range high {
		x = m.below(a[i], b[i], x)
	}
	return m.below(b[high], a[high], x)
}

// below tells of numbers by their highest bits, and by whether it is so of the bits further down.
func (m maker) below(a, b, further api.Lit) api.Lit {
	a = graph.Not(a)
	return m.or(m.and(a, b), m.and(m.or(a, b), further))
}

// sum of two words of one length and a carry, and the carry that it leaves.
func (m maker) sum(a, b []api.Lit, carry api.Lit) ([]api.Lit, api.Lit) {
	out := make([]api.Lit, len(a))
	for i := range a {
		x := m.xor(a[i], b[i])
		out[i] = m.xor(x, carry)
		carry = m.or(m.and(a[i], b[i]), m.and(x, carry))
	}
	return out, carry
}

// opposite number, if turn holds: bits above its lowest 1 are turned.
func (m maker) opposite(turn api.Lit, l []api.Lit) []api.Lit {
	out := make([]api.Lit, len(l))
	above := api.Lit(0)
	for i, x := range l {
		out[i] = m.xor(x, above)
		above = m.and(turn, m.or(x, above))
	}
	return out
}

// product as on paper; what is beyond a word falls off.
func (m maker) product(a, b []api.Lit) []api.Lit {
	out := make([]api.Lit, len(a))
	for i, x := range b {
		row := make([]api.Lit, len(a)-i)
		for j := range row {
			row[j] = m.and(x, a[j])
		}
		high, _ := m.sum(out[i:], row, 0)
		copy(out[i:], high)
	}
	return out
}

// size of a word without its sign: of -128 it is 128, which has its bits.
func (m maker) size(l []api.Lit) []api.Lit { return m.opposite(sign(l), l) }

func (m maker) quotient(a, b []api.Lit) []api.Lit {
	whole, _ := m.divide(m.size(a), m.size(b))
	return m.opposite(m.xor(sign(a), sign(b)), whole)
}

func (m maker) rest(a, b []api.Lit) []api.Lit {
	_, rest := m.divide(m.size(a), m.size(b))
	return m.opposite(sign(a), rest)
}

// divide numbers without signs as on paper: what is left has a bit for each that was taken down, so that where b has a 1 above these it does not go in; and no more bits than b, since it is less.
func (m maker) divide(a, b []api.Lit) (whole, rest []api.Lit) {
	whole = make([]api.Lit, len(a))
	most := width(b)
	for i := len(a) - 1; i >= 0; i-- {
		rest = slices.Insert(rest, 0, a[i])
		taken := len(rest)
		left, enough := m.sum(rest, turned(b[:taken]), 1)
		whole[i] = m.and(enough, graph.Not(m.any(b[taken:])))
		rest = m.choice(whole[i], left, rest)[:min(taken, most)]
	}
	return whole, append(rest, make([]api.Lit, len(a)-len(rest))...)
}

// width of a number without a sign: above it all bits are false at sight.
func width(l []api.Lit) int {
	n := len(l)
	for n > 0 && l[n-1] == 0 {
		n--
	}
	return n
}
