package cnf

import (
	"fmt"
	"slices"
	"testing"

	"lustrum/api"
	"lustrum/graph"
)

// TestWith: more literals have variables, and so do gates that they need; nothing else is said of them.
func TestWith(t *testing.T) {
	g := mixed(t)
	for _, c := range []struct {
		roots, more []api.Lit
		want        string
	}{
		{nil, nil, "{0 []} [0 0 0 0 0 0 0 0]"},
		{nil, []api.Lit{0, 1}, "{0 []} [0 0 0 0 0 0 0 0]"},
		{nil, []api.Lit{11, 2}, "{2 []} [0 1 0 0 0 2 0 0]"},
		{[]api.Lit{10}, []api.Lit{2, 10}, "{2 [[2]]} [0 1 0 0 0 2 0 0]"},
		{[]api.Lit{10}, []api.Lit{7}, "{4 [[-3 1] [-3 -2] [3 -1 2] [4]]} [0 1 2 3 0 4 0 0]"},
		{[]api.Lit{0}, []api.Lit{6}, "{3 [[-3 1] [-3 -2] [3 -1 2] []]} [0 1 2 3 0 0 0 0]"},
	} {
		f, vars, err := With(g, c.roots, c.more)
		if got := fmt.Sprint(f, vars); got != c.want || err != nil {
			t.Errorf("%v, %v: %s, %v, want %s", c.roots, c.more, got, err, c.want)
		}
	}
	f, vars, err := Of(g, []api.Lit{13})
	h, others, otherErr := With(g, []api.Lit{13}, []api.Lit{6, 13, 2, 0})
	if !alike(f, h) || !slices.Equal(vars, others) || err != nil || otherErr != nil {
		t.Errorf("%v, %v", f, h)
	}
	for _, g := range []*graph.Graph{g, new(graph.Graph)} {
		f, vars, err := With(g, nil, []api.Lit{api.Lit(2 * g.Gates())})
		if !isZero(f) || len(vars) > 0 || err != api.ErrShape {
			t.Error(f, vars, err)
		}
	}
}
