// Package plan numbers what a program works out at an instant, so that runs and gates go by one list: its inputs, and all parts of its terms.
package plan

import (
	"slices"

	"lustrum/api"
	"lustrum/flat"
	"lustrum/order"
)

// Input is the Op of a part that is one.
const Input = "input"

// Part of a term; an input is one, too.
type Part struct {
	Op     string // Input, or the term's
	N      int    // of a literal: its value
	Of     []int  // the numbers of its own parts; of a name: of the part that has its value
	Memory int    // of a pre or a fby: the number of its memory
	Kind   int
	Late   bool // at the first instant
}

// Plan of a program: numbers of parts, each of which has a value of its own at each instant. It shares no memory with the program, since it may be there for longer.
type Plan struct {
	Parts   []Part
	Inputs  []int // the parts that are inputs
	Turns   []int // all other parts, each behind those that it needs at once
	Kept    []int // of each memory the part whose value it keeps for the next instant; none of them is late
	Outs    []int // the parts that have the values of outputs
	Asserts []int // the parts that are whole asserts
	Checks  []int // the parts that are whole checks
}

// Of a program. It has order.Check's errors.
func Of(p flat.Program) (*Plan, error) {
	if err := order.Check(p); err != nil {
		return nil, err
	}
	lates, err := order.Late(p)
	if err != nil {
		return nil, err
	}
	kinds, err := kindsOf(p)
	if err != nil {
		return nil, err
	}
	x := newPlanner(p, lates)
	x.number()
	x.resolve()
	x.order()
	for i, kind := range kinds {
		x.Parts[i].Kind = kind
	}
	return x.Plan, nil
}

// HasInts tells whether one of its parts is an int.
func (x *Plan) HasInts() bool {
	return slices.ContainsFunc(x.Parts, func(p Part) bool { return p.Kind == api.Int })
}
