package flow

import (
	"slices"

	"lustrum/flat"
	"lustrum/order"
	"lustrum/tree"
	"lustrum/types"
)

// part of a term; an input is one, too.
type part struct {
	tree.Expr
	of   []int // the numbers of its own parts
	kind int
	late bool // at the first instant
}

// plan of a program: its inputs and all parts of its terms, numbered, so that each has a value of its own at each instant.
type plan struct {
	flat.Program
	parts      []part
	places     map[string]int // of names: the number of the part that has their value
	lates      map[string]int // of flows: by how many instants
	assertions []int          // the parts that are whole asserts
	checks     []int          // the parts that are whole checks
}

// newPlan of a program that order.Check has found right.
func newPlan(p flat.Program) (*plan, error) {
	lates, err := order.Late(p)
	if err != nil {
		return nil, err
	}
	kinds, err := kindsOfParts(p)
	if err != nil {
		return nil, err
	}
	x := &plan{Program: p, places: map[string]int{}, lates: map[string]int{}}
	// A term may name a flow that stands behind it.
	for i, f := range p.L {
		x.lates[f.Name] = lates[i]
	}
	x.number()
	for i, kind := range kinds {
		x.parts[i].kind = kind
	}
	return x, nil
}

// kindsOfParts of a program: its inputs, and then its terms, in the order in which they are numbered.
func kindsOfParts(p flat.Program) ([]int, error) {
	var inputs []int
	names := map[string]int{}
	for _, v := range p.In {
		inputs = append(inputs, v.Kind)
		names[v.Name] = v.Kind
	}
	var terms []tree.Expr
	for _, f := range p.L {
		terms = append(terms, f.E)
		names[f.Name] = f.Kind
	}
	parts, err := types.Parts(names, slices.Concat(terms, p.Asserts, p.Checks))
	return append(inputs, parts...), err
}

// number all parts: inputs, then flows, asserts and checks, in a term from the innermost and the left on.
func (x *plan) number() {
	for _, v := range x.In {
		x.places[v.Name] = x.add(part{Expr: tree.Expr{Op: "name", S: v.Name}})
	}
	for _, f := range x.L {
		x.places[f.Name] = x.term(f.E)
	}
	x.assertions = x.terms(x.Asserts)
	x.checks = x.terms(x.Checks)
}

// add a part, and answer its number.
func (x *plan) add(p part) int {
	x.parts = append(x.parts, p)
	return len(x.parts) - 1
}

func (x *plan) terms(l []tree.Expr) []int {
	numbers := make([]int, len(l))
	for i, e := range l {
		numbers[i] = x.term(e)
	}
	return numbers
}

func (x *plan) term(e tree.Expr) int {
	of := x.terms(e.L)
	return x.add(part{Expr: e, of: of, late: x.isLate(e, of)})
}

// isLate tells whether a term is late, by its parts: of the rules of order.Late those for a program in which nothing is late by 2.
func (x *plan) isLate(e tree.Expr, of []int) bool {
	switch e.Op {
	case "name":
		return x.lates[e.S] > 0
	case "pre":
		return true
	case "->", "fby":
		of = of[:1]
	}
	return slices.ContainsFunc(of, func(n int) bool { return x.parts[n].late })
}
