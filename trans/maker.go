package trans

import (
	"slices"

	"lustrum/api"
	"lustrum/graph"
	"lustrum/plan"
	"lustrum/throw"
	"lustrum/word"
)

// maker of a system: what the graph refuses it throws.
type maker struct {
	System
	plan     *plan.Plan
	first    []api.Lit   // holds if no instant has been
	memories [][]api.Lit // a word each
	values   [][]api.Lit // of all parts
}

func systemOf(x *plan.Plan) System {
	m := &maker{System: System{G: new(graph.Graph)}, plan: x, values: make([][]api.Lit, len(x.Parts))}
	m.takeInputs()
	m.takeState()
	// Also what nothing uses is made, since it may trap.
	for _, n := range x.Turns {
		m.values[n] = m.work(&x.Parts[n])
	}
	m.tell()
	return m.System
}

// width of a value: how many bits it has.
func width(kind int) int {
	if kind == api.Int {
		return api.Bits
	}
	return 1
}

// fresh word: inputs of the graph.
func (m *maker) fresh(kind int) []api.Lit {
	l := make([]api.Lit, width(kind))
	for i := range l {
		l[i] = throw.Must(m.G.Input())
	}
	return l
}

func (m *maker) takeInputs() {
	for _, n := range m.plan.Inputs {
		m.values[n] = m.fresh(m.plan.Parts[n].Kind)
		m.In = append(m.In, m.values[n]...)
	}
}

func (m *maker) takeState() {
	m.first = m.fresh(api.Bool)
	m.Mem = append(m.Mem, m.first...)
	m.Init = append(m.Init, true)
	for _, n := range m.plan.Kept {
		w := m.fresh(m.plan.Parts[n].Kind)
		m.memories = append(m.memories, w)
		m.Mem = append(m.Mem, w...)
		m.Init = append(m.Init, make([]bool, len(w))...)
	}
}

// work a part out, behind those that it needs at once. What is late has any value at the first instant: no output, assert, check or memory asks for it there.
func (m *maker) work(p *plan.Part) []api.Lit {
	switch p.Op {
	case "int":
		return throw.Must(word.Const(p.N))
	case "true", "false":
		return []api.Lit{api.Lit(p.N)}
	case "name":
		return m.values[p.Of[0]]
	case "pre":
		return m.memories[p.Memory]
	case "->":
		return m.behind(m.values[p.Of[0]], m.values[p.Of[1]])
	case "fby":
		return m.behind(m.values[p.Of[0]], m.memories[p.Memory])
	}
	return m.operate(p)
}

// behind the first instant the second word, at it the first one.
func (m *maker) behind(first, later []api.Lit) []api.Lit {
	out, _ := m.gates("if", m.first, first, later)
	return out
}

func (m *maker) operate(p *plan.Part) []api.Lit {
	out, trap := m.gates(p.Op, m.words(p.Of)...)
	if p.Late {
		trap = throw.Must(m.G.And(trap, graph.Not(m.first[0])))
	}
	m.Trap = throw.Must(m.G.Or(m.Trap, trap))
	return out
}

// gates of an operator, and what tells that it traps.
func (m *maker) gates(op string, l ...[]api.Lit) (out []api.Lit, trap api.Lit) {
	out, trap, err := word.Of(m.G, op, l)
	throw.If(err)
	return out, trap
}

// words of parts.
func (m *maker) words(parts []int) [][]api.Lit {
	l := make([][]api.Lit, len(parts))
	for i, n := range parts {
		l[i] = m.values[n]
	}
	return l
}

// tell what can be seen of an instant, and the state behind it, in which one has been.
func (m *maker) tell() {
	m.Out = slices.Concat(m.words(m.plan.Outs)...)
	m.Checks = slices.Concat(m.words(m.plan.Checks)...)
	m.Next = append([]api.Lit{0}, slices.Concat(m.words(m.plan.Kept)...)...)
	m.Assert = 1
	for _, x := range slices.Concat(m.words(m.plan.Asserts)...) {
		m.Assert = throw.Must(m.G.And(m.Assert, x))
	}
}
