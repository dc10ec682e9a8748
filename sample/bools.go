package sample

import (
	"strconv"

	"lustrum/api"
	"lustrum/flat"
	"lustrum/tree"
)

// Bools: a program without ints, each of whose flows is one of so many memories. Some keep what they are, so that there are states that are never reached, and what is checked is wrong at few of them.
func Bools(choices []byte, memories int) flat.Program {
	m := &boolMaker{chooser: chooser{choices}}
	return m.program(memories)
}

// boolMaker makes a program of names of bools.
type boolMaker struct {
	chooser
	inputs, names []tree.Expr // inputs are names, too
}

func (m *boolMaker) program(memories int) flat.Program {
	p := flat.Program{In: []tree.Var{{Name: "a", Kind: api.Bool}, {Name: "b", Kind: api.Bool}, {Name: "c", Kind: api.Bool}}[:1+m.choose(3)]}
	for _, v := range p.In {
		m.inputs = append(m.inputs, name(v.Name))
	}
	m.names = append(m.names, m.inputs...)
	for i := range memories {
		p.Out = append(p.Out, "m"+strconv.Itoa(i))
		m.names = append(m.names, name(p.Out[i]))
	}
	for _, s := range p.Out {
		first := op(m.word("true", "false"))
		p.L = append(p.L, flat.Flow{Name: s, Kind: api.Bool, E: op("fby", first, m.next(name(s)))})
	}
	for range m.choose(3) {
		p.Asserts = append(p.Asserts, m.truth(2))
	}
	for range 1 + m.choose(3) {
		p.Checks = append(p.Checks, m.rare())
	}
	return p
}

// next value of a memory.
func (m *boolMaker) next(now tree.Expr) tree.Expr {
	switch m.choose(5) {
	case 0:
		return m.inputs[m.choose(len(m.inputs))]
	case 1, 2:
		return op(m.word("and", "or"), now, m.truth(1))
	case 3:
		return op("xor", now, m.truth(2))
	}
	return m.truth(3)
}

// truth of names; it is none of the memories of its own.
func (m *boolMaker) truth(deep int) tree.Expr {
	if deep == 0 || m.often(2) {
		return m.names[m.choose(len(m.names))]
	}
	one := func() tree.Expr { return m.truth(deep - 1) }
	switch m.choose(9) {
	case 0, 1:
		return op("not", one())
	case 2:
		return op("if", one(), one(), one())
	case 3:
		return op("->", op(m.word("true", "false")), one())
	}
	return op(m.word("and", "or", "xor", "=>", "=", "<>"), one(), one())
}

// rare: what does not hold at few of the values that names can have.
func (m *boolMaker) rare() tree.Expr {
	all := op("true")
	for _, e := range m.names[:1+m.choose(len(m.names))] {
		if m.often(6) {
			e = op("not", e)
		}
		all = op("and", all, e)
	}
	return op("or", op("not", all), m.truth(2))
}

func name(s string) tree.Expr { return tree.Expr{Op: "name", S: s} }
