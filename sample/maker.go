package sample

import (
	"slices"
	"strconv"

	"lustrum/api"
	"lustrum/flat"
	"lustrum/tree"
)

// declared is an input, or a flow: it is late by at most so much, which is promised ahead of its term, since others may name it there.
type declared struct {
	name       string
	kind, late int
}

// maker of a program.
type maker struct {
	chooser
	now   []declared // what may stand where it is needed at once
	later []declared // what may stand below a pre
	parts int        // that it may still make in a term, more or less
	zeros int        // of ten divisions, how many may be by 0
}

func (m *maker) program() flat.Program {
	p := flat.Program{In: []tree.Var{{Name: "i", Kind: api.Int}, {Name: "b", Kind: api.Bool}, {Name: "j", Kind: api.Int}}[:m.choose(4)]}
	m.zeros = m.choose(10)
	for _, v := range p.In {
		m.now = append(m.now, declared{v.Name, v.Kind, 0})
	}
	var flows []declared
	for i := range m.choose(8) {
		flows = append(flows, declared{"f" + strconv.Itoa(i), 1 + m.choose(2), m.choose(2)})
	}
	m.later = slices.Concat(m.now, flows)
	for _, d := range flows {
		f := flat.Flow{Name: d.name, Kind: d.kind, E: m.whole(d.kind, d.late)}
		// Flows need not stand behind those that they need.
		p.L = slices.Insert(p.L, m.choose(len(p.L)+1), f)
		m.now = append(m.now, d)
		if d.late == 0 && m.often(7) {
			p.Out = slices.Insert(p.Out, m.choose(len(p.Out)+1), d.name)
		}
	}
	for range m.choose(3) {
		p.Asserts = append(p.Asserts, m.whole(api.Bool, 0))
	}
	for range m.choose(3) {
		p.Checks = append(p.Checks, m.whole(api.Bool, 0))
	}
	return p
}

// whole term, that is late by at most so much.
func (m *maker) whole(kind, late int) tree.Expr {
	m.parts = 1 + m.choose(12)
	return m.term(kind, late)
}

func (m *maker) term(kind, late int) tree.Expr {
	m.parts--
	if m.parts < 0 || m.often(2) {
		return m.atom(kind, late)
	}
	switch {
	case m.often(3):
		return m.timed(kind, late)
	case m.often(2):
		return op("if", m.term(api.Bool, late), m.term(kind, late), m.term(kind, late))
	case kind == api.Int:
		return m.number(late)
	}
	return m.truth(late)
}

func (m *maker) atom(kind, late int) tree.Expr {
	l := slices.DeleteFunc(slices.Clone(m.now), func(d declared) bool { return d.kind != kind || d.late > late })
	switch {
	case len(l) > 0 && !m.often(2):
		return name(l[m.choose(len(l))].name)
	case kind == api.Int:
		return whole(m.choose(128) >> m.choose(8))
	}
	return op(m.word("true", "false"))
}

// timed terms; whatever is late may stand behind an arrow.
func (m *maker) timed(kind, late int) tree.Expr {
	switch n := m.choose(5); {
	case n == 0 && late > 0:
		return op("pre", m.past(kind))
	case n < 2:
		return op("fby", m.term(kind, late), m.past(kind))
	case n == 2:
		return op("->", m.term(kind, late), op("pre", m.past(kind)))
	}
	return op("->", m.term(kind, late), m.term(kind, 1))
}

// past is what may stand below a pre: it must not be late itself.
func (m *maker) past(kind int) tree.Expr {
	now := m.now
	m.now = m.later
	e := m.term(kind, 0)
	m.now = now
	return e
}

func (m *maker) number(late int) tree.Expr {
	switch m.choose(4) {
	case 0:
		return op("neg", m.term(api.Int, late))
	case 1:
		return m.division(late)
	}
	return op(m.word("+", "-", "*"), m.term(api.Int, late), m.term(api.Int, late))
}

func (m *maker) division(late int) tree.Expr {
	what, by := m.term(api.Int, late), m.term(api.Int, late)
	if !m.often(m.zeros) {
		by = op("+", whole(1+m.choose(9)), op("*", whole(0), by))
	}
	return op(m.word("/", "mod"), what, by)
}

func (m *maker) truth(late int) tree.Expr {
	switch m.choose(4) {
	case 0:
		return op("not", m.term(api.Bool, late))
	case 1:
		return op(m.word("and", "or", "xor", "=>", "=", "<>"), m.term(api.Bool, late), m.term(api.Bool, late))
	}
	return op(m.word("<", "<=", ">", ">=", "=", "<>"), m.term(api.Int, late), m.term(api.Int, late))
}

func op(op string, l ...tree.Expr) tree.Expr { return tree.Expr{Op: op, L: l} }

func whole(n int) tree.Expr { return tree.Expr{Op: "int", N: n} }
