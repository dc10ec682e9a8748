package word

import (
	"lustrum/api"
	"lustrum/graph"
	"lustrum/types"
)

// maker of words in its graph: what the graph refuses it throws.
type maker struct{ *graph.Graph }

func made(x api.Lit, err error) api.Lit {
	if err != nil {
		panic(refused{err})
	}
	return x
}

func (m maker) and(a, b api.Lit) api.Lit { return made(m.And(a, b)) }

func (m maker) or(a, b api.Lit) api.Lit { return made(m.Or(a, b)) }

// xor by way of a literal turned, so that And and Or of both are among its gates: carries ask for these, too.
func (m maker) xor(a, b api.Lit) api.Lit { return graph.Not(made(m.Xor(a, graph.Not(b)))) }

// any of the literals; from the last one on, so that a list's tails have no gates of their own.
func (m maker) any(l []api.Lit) api.Lit {
	x := api.Lit(0)
	for i := len(l) - 1; i >= 0; i-- {
		x = m.or(l[i], x)
	}
	return x
}

// ask that words are as an operator must have them, and their literals the graph's: ahead of the first gate, so that what is wrong leaves none behind, and is told ahead of the bound.
func (m maker) ask(op string, l [][]api.Lit) {
	_, err := types.Result(op, kindsOf(l))
	if err != nil || len(l) == 0 { // of no parts is a literal of the language, which is no operator
		panic(wrongShape{})
	}
	for _, w := range l {
		for _, x := range w {
			m.and(x, 1) // makes no gate
		}
	}
}

// kindsOf words by their lengths; 0 is none.
func kindsOf(l [][]api.Lit) []int {
	kinds := make([]int, len(l))
	for i, w := range l {
		switch len(w) {
		case 1:
			kinds[i] = api.Bool
		case api.Bits:
			kinds[i] = api.Int
		}
	}
	return kinds
}

// value of an operator, its words being as they must be.
func (m maker) value(op string, l [][]api.Lit) (out []api.Lit, trap api.Lit) {
	a, b := l[0], l[len(l)-1]
	switch op {
	case "if":
		return m.choice(a[0], l[1], b), 0
	case "neg":
		return m.opposite(1, a), 0
	case "+":
		out, _ = m.sum(a, b, 0)
		return out, 0
	case "-":
		out, _ = m.sum(a, turned(b), 1)
		return out, 0
	case "*":
		return m.product(a, b), 0
	case "/":
		return m.quotient(a, b), m.isZero(b)
	case "mod":
		return m.rest(a, b), m.isZero(b)
	}
	return []api.Lit{m.truth(op, a, b)}, 0
}

// truth of an operator that makes a bool; of one that makes nothing of values alone there is none.
func (m maker) truth(op string, a, b []api.Lit) api.Lit {
	switch op {
	case "not":
		return graph.Not(a[0])
	case "and":
		return m.and(a[0], b[0])
	case "or":
		return m.or(a[0], b[0])
	case "xor":
		return m.xor(a[0], b[0])
	case "=>":
		return m.or(graph.Not(a[0]), b[0])
	case "=":
		return graph.Not(m.unlike(a, b))
	case "<>":
		return m.unlike(a, b)
	case "<":
		return m.less(a, b)
	case "<=":
		return graph.Not(m.less(b, a))
	case ">":
		return m.less(b, a)
	case ">=":
		return graph.Not(m.less(a, b))
	}
	panic(wrongShape{})
}
