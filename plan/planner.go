package plan

import (
	"slices"

	"lustrum/flat"
	"lustrum/tree"
	"lustrum/types"
)

// planner of a program that order.Check has found right.
type planner struct {
	flat.Program
	*Plan
	places map[string]int // of names: the number of the part that has their value
	lates  map[string]int // of flows: by how many instants
	names  []string       // of each part that is a name the name
}

func newPlanner(p flat.Program, lates []int) *planner {
	x := &planner{Program: p, Plan: &Plan{}, places: map[string]int{}, lates: map[string]int{}}
	// A term may name a flow that stands behind it.
	for i, f := range p.L {
		x.lates[f.Name] = lates[i]
	}
	return x
}

// kindsOf the parts of a program: its inputs, and then its terms, in the order in which they are numbered.
func kindsOf(p flat.Program) ([]int, error) {
	var inputs []int
	names := map[string]int{}
	for _, v := range p.In {
		inputs = append(inputs, v.Kind)
		names[v.Name] = v.Kind
	}
	var terms []tree.Expr
	for _, f := range p.L {
		terms = append(terms, f.E)
		names[f.Name] = f.Kind
	}
	parts, err := types.Parts(names, slices.Concat(terms, p.Asserts, p.Checks))
	return append(inputs, parts...), err
}

// number all parts: inputs, then flows, asserts and checks, in a term from the innermost and the left on. Memories come in this order, too.
func (x *planner) number() {
	for _, v := range x.In {
		n := x.add(Part{Op: Input}, v.Name)
		x.places[v.Name] = n
		x.Inputs = append(x.Inputs, n)
	}
	for _, f := range x.L {
		x.places[f.Name] = x.term(f.E)
	}
	x.Plan.Asserts = x.terms(x.Program.Asserts)
	x.Plan.Checks = x.terms(x.Program.Checks)
}

// add a part, and answer its number.
func (x *planner) add(p Part, name string) int {
	x.Parts = append(x.Parts, p)
	x.names = append(x.names, name)
	return len(x.Parts) - 1
}

func (x *planner) terms(l []tree.Expr) []int {
	numbers := make([]int, len(l))
	for i, e := range l {
		numbers[i] = x.term(e)
	}
	return numbers
}

func (x *planner) term(e tree.Expr) int {
	of := x.terms(e.L)
	p := Part{Op: e.Op, N: e.N, Of: of, Late: x.isLate(e, of)}
	switch e.Op {
	case "true":
		p.N = 1
	case "pre", "fby":
		p.Memory = len(x.Kept)
		x.Kept = append(x.Kept, of[len(of)-1])
	}
	return x.add(p, e.S)
}

// isLate tells whether a term is late, by its parts: of the rules of order.Late those for a program in which nothing is late by 2.
func (x *planner) isLate(e tree.Expr, of []int) bool {
	switch e.Op {
	case "name":
		return x.lates[e.S] > 0
	case "pre":
		return true
	case "->", "fby":
		of = of[:1]
	}
	return slices.ContainsFunc(of, func(n int) bool { return x.Parts[n].Late })
}

// resolve names, now that all parts have numbers.
func (x *planner) resolve() {
	for i, p := range x.Parts {
		if p.Op == "name" {
			x.Parts[i].Of = []int{x.places[x.names[i]]}
		}
	}
	for _, name := range x.Out {
		x.Outs = append(x.Outs, x.places[name])
	}
}

// order the parts. It ends, since no flow needs itself at once.
func (x *planner) order() {
	known := make([]bool, len(x.Parts))
	var need func(i int)
	need = func(i int) {
		if known[i] {
			return
		}
		known[i] = true
		for _, n := range x.Parts[i].needs() {
			need(n)
		}
		if x.Parts[i].Op != Input {
			x.Turns = append(x.Turns, i)
		}
	}
	for i := range x.Parts {
		need(i)
	}
}

// needs of a part: the numbers of those that it needs at once.
func (p Part) needs() []int {
	switch p.Op {
	case "pre":
		return nil
	case "fby":
		return p.Of[:1]
	}
	return p.Of
}
