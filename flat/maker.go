package flat

import (
	"slices"
	"strconv"

	"lustrum/api"
	"lustrum/tree"
)

// maker puts nodes into its program; it throws where this would grow beyond its bounds.
type maker struct {
	Program
	nodes map[string]tree.Node
	calls int // that have their numbers
	terms int // Exprs that were made: all of them are in the program, in the end
}

func newMaker(l []tree.Node) *maker {
	m := &maker{nodes: map[string]tree.Node{}}
	for _, n := range l {
		m.nodes[n.Name] = n
	}
	return m
}

// whole makes the program that a node is.
func (m *maker) whole(n tree.Node) {
	m.In = slices.Clone(n.In)
	m.equations(n, "")
	m.Out = namesOf(n.Out, "")
}

// equations of a node whose names get a text ahead.
func (m *maker) equations(n tree.Node, ahead string) {
	kinds := map[string]int{}
	for _, v := range slices.Concat(n.Out, n.Own) {
		kinds[v.Name] = v.Kind
	}
	for _, q := range n.L {
		values := m.values(q.E, ahead)
		switch q.Kind {
		case "assert":
			m.Asserts = append(m.Asserts, values...)
		case "check":
			m.Checks = append(m.Checks, values...)
		default:
			for i, name := range q.Names {
				m.flow(ahead+name, kinds[name], values[i])
			}
		}
	}
}

func (m *maker) flow(name string, kind int, e tree.Expr) {
	if len(m.L) == api.MaxFlat {
		panic(thrown{api.ErrBound})
	}
	m.L = append(m.L, Flow{name, kind, e})
}

// values of a term, one by one: a call may have more than one.
func (m *maker) values(e tree.Expr, ahead string) []tree.Expr {
	if e.Op == "call" {
		return m.call(e, ahead)
	}
	return []tree.Expr{m.term(e, ahead)}
}

// term without its calls.
func (m *maker) term(e tree.Expr, ahead string) tree.Expr {
	switch e.Op {
	case "call":
		return m.call(e, ahead)[0]
	case "name":
		return m.part(tree.Expr{Op: "name", S: ahead + e.S})
	}
	return m.part(tree.Expr{Op: e.Op, N: e.N, L: m.parts(e, ahead)})
}

func (m *maker) parts(e tree.Expr, ahead string) []tree.Expr {
	var l []tree.Expr
	for _, part := range e.L {
		l = append(l, m.term(part, ahead))
	}
	return l
}

// part of a term that is made is counted at once: calls of calls may be more than can be gone through.
func (m *maker) part(e tree.Expr) tree.Expr {
	if m.terms == api.MaxTerms {
		panic(thrown{api.ErrBound})
	}
	m.terms++
	return e
}

// call puts a node in, and answers its outputs. It gets its number behind those in its arguments, ahead of those in its node.
func (m *maker) call(e tree.Expr, ahead string) []tree.Expr {
	n := m.nodes[e.S]
	arguments := m.parts(e, ahead)
	inside := strconv.Itoa(m.calls) + "."
	m.calls++
	for i, v := range n.In {
		m.flow(inside+v.Name, v.Kind, arguments[i])
	}
	m.equations(n, inside)
	var l []tree.Expr
	for _, name := range namesOf(n.Out, inside) {
		l = append(l, m.part(tree.Expr{Op: "name", S: name}))
	}
	return l
}

func namesOf(l []tree.Var, ahead string) []string {
	var names []string
	for _, v := range l {
		names = append(names, ahead+v.Name)
	}
	return names
}
