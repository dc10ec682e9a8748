package flow

import (
	"slices"

	"lustrum/flat"
	"lustrum/order"
	"lustrum/tree"
	"lustrum/types"
)

// part of a term; an input is one, too.
type part struct {
	op     string
	name   string
	n      int      // of a literal: its value
	of     []int    // the numbers of its own parts; of a name: of the part that has its value
	do     operator // of what knows nothing of time
	memory int      // of a pre or a fby: the number of its memory
	kind   int
	late   bool // at the first instant
}

// plan of a program: its inputs and all parts of its terms, numbered, so that each has a value of its own at each instant. It shares no memory with the program, since it may be there for longer.
type plan struct {
	parts      []part
	inputs     []int // the parts that are inputs
	turns      []int // all other parts, each behind those that it needs at once
	kept       []int // of each memory the part whose value it keeps for the next instant
	outs       []int // the parts that have the values of outputs
	assertions []int // the parts that are whole asserts
	checks     []int // the parts that are whole checks
}

// planner of a program.
type planner struct {
	flat.Program
	*plan
	operators map[string]operator
	places    map[string]int // of names: the number of the part that has their value
	lates     map[string]int // of flows: by how many instants
}

// newPlan of a program that order.Check has found right.
func newPlan(p flat.Program) (*plan, error) {
	lates, err := order.Late(p)
	if err != nil {
		return nil, err
	}
	kinds, err := kindsOfParts(p)
	if err != nil {
		return nil, err
	}
	x := &planner{Program: p, plan: &plan{}, operators: operators(), places: map[string]int{}, lates: map[string]int{}}
	// A term may name a flow that stands behind it.
	for i, f := range p.L {
		x.lates[f.Name] = lates[i]
	}
	x.number()
	x.resolve()
	x.order()
	for i, kind := range kinds {
		x.parts[i].kind = kind
	}
	return x.plan, nil
}

// kindsOfParts of a program: its inputs, and then its terms, in the order in which they are numbered.
func kindsOfParts(p flat.Program) ([]int, error) {
	var inputs []int
	names := map[string]int{}
	for _, v := range p.In {
		inputs = append(inputs, v.Kind)
		names[v.Name] = v.Kind
	}
	var terms []tree.Expr
	for _, f := range p.L {
		terms = append(terms, f.E)
		names[f.Name] = f.Kind
	}
	parts, err := types.Parts(names, slices.Concat(terms, p.Asserts, p.Checks))
	return append(inputs, parts...), err
}

// number all parts: inputs, then flows, asserts and checks, in a term from the innermost and the left on. Memories come in this order, too.
func (x *planner) number() {
	for _, v := range x.In {
		x.places[v.Name] = x.add(part{op: "input"})
		x.inputs = append(x.inputs, x.places[v.Name])
	}
	for _, f := range x.L {
		x.places[f.Name] = x.term(f.E)
	}
	x.assertions = x.terms(x.Asserts)
	x.checks = x.terms(x.Checks)
}

// add a part, and answer its number.
func (x *planner) add(p part) int {
	x.parts = append(x.parts, p)
	return len(x.parts) - 1
}

func (x *planner) terms(l []tree.Expr) []int {
	numbers := make([]int, len(l))
	for i, e := range l {
		numbers[i] = x.term(e)
	}
	return numbers
}

func (x *planner) term(e tree.Expr) int {
	of := x.terms(e.L)
	p := part{op: e.Op, name: e.S, n: e.N, of: of, do: x.operators[e.Op], late: x.isLate(e, of)}
	switch e.Op {
	case "true":
		p.n = truth(true)
	case "pre", "fby":
		p.memory = len(x.kept)
		x.kept = append(x.kept, of[len(of)-1])
	}
	return x.add(p)
}

// isLate tells whether a term is late, by its parts: of the rules of order.Late those for a program in which nothing is late by 2.
func (x *planner) isLate(e tree.Expr, of []int) bool {
	switch e.Op {
	case "name":
		return x.lates[e.S] > 0
	case "pre":
		return true
	case "->", "fby":
		of = of[:1]
	}
	return slices.ContainsFunc(of, func(n int) bool { return x.parts[n].late })
}

// resolve names, now that all parts have numbers.
func (x *planner) resolve() {
	for i, p := range x.parts {
		if p.op == "name" {
			x.parts[i].of = []int{x.places[p.name]}
		}
	}
	for _, name := range x.Out {
		x.outs = append(x.outs, x.places[name])
	}
}

// order the parts. It ends, since no flow needs itself at once.
func (x *planner) order() {
	known := make([]bool, len(x.parts))
	var need func(i int)
	need = func(i int) {
		if known[i] {
			return
		}
		known[i] = true
		for _, n := range x.parts[i].needs() {
			need(n)
		}
		if x.parts[i].op != "input" {
			x.turns = append(x.turns, i)
		}
	}
	for i := range x.parts {
		need(i)
	}
}

// needs of a part: the numbers of those that it needs at once.
func (p part) needs() []int {
	switch p.op {
	case "pre":
		return nil
	case "fby":
		return p.of[:1]
	}
	return p.of
}
