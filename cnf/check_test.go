package cnf

import (
	"math"
	"testing"

	"lustrum/api"
)

func TestP110Check(t *testing.T) {
	for _, f := range []Formula{
		{},
		{L: []api.Clause{}},
		{L: []api.Clause{{}, nil}},
		{Vars: 1},
		{Vars: 1, L: []api.Clause{{1}, {-1}, {1, -1}, {-1, -1, -1}, {}}},
		{Vars: 3, L: []api.Clause{{1, -3}, {}, {2}}},
		{Vars: api.MaxVars},
		{Vars: api.MaxVars, L: []api.Clause{{api.MaxVars}, {-api.MaxVars, 1}}},
		{Vars: 2, L: make([]api.Clause, api.MaxClauses)},
	} {
		if err := Check(f); err != nil {
			t.Errorf("%d variables, %d clauses: %v", f.Vars, len(f.L), err)
		}
	}
}

func TestP110Bound(t *testing.T) {
	for _, f := range []Formula{
		{Vars: -1},
		{Vars: -2, L: []api.Clause{{1}}},
		{Vars: math.MinInt},
		{Vars: math.MinInt, L: []api.Clause{{math.MinInt}}},
		{Vars: api.MaxVars + 1},
		{Vars: math.MaxInt, L: []api.Clause{{1}}},
		{Vars: 1, L: make([]api.Clause, api.MaxClauses+1)},
		{Vars: api.MaxVars + 1, L: []api.Clause{{0}}},
		{Vars: 1, L: append(make([]api.Clause, api.MaxClauses), api.Clause{2})},
	} {
		if err := Check(f); err != api.ErrBound {
			t.Errorf("%d variables, %d clauses: %v", f.Vars, len(f.L), err)
		}
	}
}

func TestP110Shape(t *testing.T) {
	last := make([]api.Clause, api.MaxClauses)
	last[len(last)-1] = api.Clause{3}
	for _, c := range []struct {
		f  Formula
		at int
	}{
		{Formula{Vars: 2, L: []api.Clause{{1}, {0}}}, 1},
		{Formula{Vars: 2, L: []api.Clause{{1, 2, 0}}}, 0},
		{Formula{Vars: 2, L: []api.Clause{{0, 2}, {3}}}, 0},
		{Formula{Vars: 2, L: []api.Clause{{}, {1}, {-2, 3}, {0}}}, 2},
		{Formula{Vars: 2, L: []api.Clause{{-2}, {-3}, {3}}}, 1},
		{Formula{L: []api.Clause{{}, {1}}}, 1},
		{Formula{L: []api.Clause{{-1}}}, 0},
		{Formula{L: []api.Clause{{0}}}, 0},
		{Formula{Vars: 5, L: []api.Clause{{math.MinInt}}}, 0},
		{Formula{Vars: 5, L: []api.Clause{{5}, {-5, math.MinInt + 1}}}, 1},
		{Formula{Vars: 5, L: []api.Clause{{5}, {math.MaxInt}}}, 1},
		{Formula{Vars: api.MaxVars, L: []api.Clause{{api.MaxVars + 1}}}, 0},
		{Formula{Vars: api.MaxVars, L: []api.Clause{{-api.MaxVars - 1}}}, 0},
		{Formula{Vars: 2, L: last}, len(last) - 1},
	} {
		if err := Check(c.f); !isFault(err, api.ErrShape, c.at) {
			t.Errorf("%d clauses: %v, want At %d", len(c.f.L), err, c.at)
		}
	}
}
