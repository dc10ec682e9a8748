// Package unroll lays instants of a program one behind another, as gates of one graph.
package unroll

import (
	"slices"

	"lustrum/api"
	"lustrum/graph"
	"lustrum/throw"
	"lustrum/trans"
)

// Roll of instants, from the beginning on, or from any state on. What none of the literals that are asked for hangs on, at whatever instant, is not in its graph, and stands as 0.
type Roll struct {
	Graph  *graph.Graph
	Ins    [][]api.Lit // of each instant the inputs
	States [][]api.Lit // of each instant the state ahead of it
	system trans.System
	asked  []api.Lit
	open   bool // the state ahead of the first instant may be any
	need
	gates []api.Lit // of the last instant: what each gate of the system is in Graph
}

// New roll of a system, without instants as yet; of each instant these literals of the system are asked for. The system must stay as it is. ErrShape: one of these literals, or of the system's, is none, or its lists of a state's bits are not of one length.
func New(s trans.System, asked []api.Lit) (*Roll, error) { return newRoll(s, asked, false) }

// Open roll of a system: as a New one, but that the state ahead of its first instant may be any; its bits are inputs of the graph.
func Open(s trans.System, asked []api.Lit) (*Roll, error) { return newRoll(s, asked, true) }

func newRoll(s trans.System, asked []api.Lit, open bool) (*Roll, error) {
	if len(s.Next) != len(s.Mem) || len(s.Init) != len(s.Mem) {
		return nil, api.ErrShape
	}
	if _, err := s.G.Needs(slices.Concat(s.In, s.Mem, s.Next, asked)); err != nil {
		return nil, err
	}
	return throw.Answer(func() *Roll {
		return &Roll{Graph: new(graph.Graph), system: s, asked: slices.Clone(asked), open: open, need: needOf(s, asked)}
	})
}

// Add an instant, and answer the literals that are asked for, as they are at it. ErrBound: the graph cannot have as many gates; the roll is of no more use then.
func (r *Roll) Add() ([]api.Lit, error) {
	return throw.Answer(func() []api.Lit {
		state := r.behind()
		r.gates = make([]api.Lit, r.system.G.Gates())
		for i, x := range r.system.Mem {
			r.gates[x/2] = state[i]
		}
		r.States = append(r.States, state)
		r.Ins = append(r.Ins, r.inputs())
		r.lay(r.now)
		return r.told(r.asked)
	})
}

// Again tells whether the state ahead of the last instant is that of one ahead of it, literal by literal: whatever comes now could have come then.
func (r *Roll) Again() bool {
	last := len(r.States) - 1
	return last > 0 && slices.ContainsFunc(r.States[:last], func(l []api.Lit) bool { return slices.Equal(l, r.States[last]) })
}
