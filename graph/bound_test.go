package graph

import (
	"slices"
	"testing"

	"lustrum/api"
)

// fill a graph with inputs, up to so many gates.
func fill(t testing.TB, g *Graph, gates int) {
	t.Helper()
	for g.Gates() < gates {
		if x, err := g.Input(); x != api.Lit(2*g.Gates()-2) || err != nil {
			t.Fatal(x, err)
		}
	}
}

func TestP90BoundOfInputs(t *testing.T) {
	g := new(Graph)
	fill(t, g, api.MaxGates)
	for range 2 {
		x, err := g.Input()
		refused(t, x, err, api.ErrBound)
		x, err = g.And(2, 4)
		refused(t, x, err, api.ErrBound)
		x, err = g.Or(2, 199998)
		refused(t, x, err, api.ErrBound)
		x, err = g.Xor(2, 4)
		refused(t, x, err, api.ErrBound)
		x, err = g.If(2, 4, 6)
		refused(t, x, err, api.ErrBound)
		counted(t, g, api.MaxGates, api.MaxGates-1)
	}
	in := make([]bool, api.MaxGates-1)
	in[0], in[len(in)-1] = true, true
	worked(t, g, in, []api.Lit{2, 4, 199996, 199998, 199999}, []bool{true, false, false, true, false})
}

// TestP90AtTheBound: what needs no new gate is still told, and the last gate is made.
func TestP90AtTheBound(t *testing.T) {
	g := withInputs(t, 3)
	and, err := g.And(2, 4)
	came(t, and, err, 8)
	xor, err := g.Xor(2, 4)
	came(t, xor, err, 15)
	choice, err := g.If(2, 4, 6)
	came(t, choice, err, 19)
	fill(t, g, api.MaxGates-1)
	last, err := g.And(4, 6)
	came(t, last, err, 199998)
	counted(t, g, api.MaxGates, api.MaxGates-8)
	x, err := g.And(2, 6)
	refused(t, x, err, api.ErrBound)
	for _, c := range []struct{ a, b, want api.Lit }{{4, 2, 8}, {6, 4, last}, {last, 0, 0}, {1, last, last}, {last, last, last}, {last, last ^ 1, 0}} {
		x, err := g.And(c.a, c.b)
		came(t, x, err, c.want)
	}
	x, err = g.Or(3, 5)
	came(t, x, err, 9)
	x, err = g.Xor(2, 4)
	came(t, x, err, xor)
	x, err = g.Xor(last, 1)
	came(t, x, err, last^1)
	x, err = g.If(2, 4, 6)
	came(t, x, err, choice)
	counted(t, g, api.MaxGates, api.MaxGates-8)
}

// TestP90ShapeAheadOfBound: where both are so.
func TestP90ShapeAheadOfBound(t *testing.T) {
	g := new(Graph)
	fill(t, g, api.MaxGates)
	for _, bad := range strangers(g) {
		x, err := g.And(2, bad)
		refused(t, x, err, api.ErrShape)
		x, err = g.Or(bad, 2)
		refused(t, x, err, api.ErrShape)
		x, err = g.Xor(2, bad)
		refused(t, x, err, api.ErrShape)
		for _, l := range [][3]api.Lit{{2, 4, bad}, {2, bad, 4}, {bad, 2, 4}} {
			x, err = g.If(l[0], l[1], l[2])
			refused(t, x, err, api.ErrShape)
		}
	}
	counted(t, g, api.MaxGates, api.MaxGates-1)
}

// TestP91BoundWithin: the bound is come to behind the first, or the second, gate of three; what was there stays right.
func TestP91BoundWithin(t *testing.T) {
	for free := range 3 {
		for _, call := range []func(*Graph) (api.Lit, error){
			func(g *Graph) (api.Lit, error) { return g.Xor(2, 4) },
			func(g *Graph) (api.Lit, error) { return g.If(2, 4, 6) },
		} {
			g := withInputs(t, 3)
			and, err := g.And(4, 6)
			came(t, and, err, 8)
			fill(t, g, api.MaxGates-free)
			inputs := g.Inputs()
			x, err := call(g)
			refused(t, x, err, api.ErrBound)
			if g.Gates() > api.MaxGates || g.Inputs() != inputs {
				t.Errorf("%d gates, %d inputs", g.Gates(), g.Inputs())
			}
			in := make([]bool, inputs)
			in[1], in[2] = true, true
			worked(t, g, in, []api.Lit{2, 4, and}, []bool{false, true, true})
			x, err = g.And(6, 4)
			came(t, x, err, and)
		}
	}
}

// TestP92Deep: each gate of the chain is of the one ahead of it, as many as there can be.
func TestP92Deep(t *testing.T) {
	g := withInputs(t, 2)
	l := []api.Lit{2}
	for g.Gates() < api.MaxGates {
		x, err := g.And(l[len(l)-1]^1, 4)
		if err != nil || x != api.Lit(2*g.Gates()-2) {
			t.Fatal(x, err)
		}
		l = append(l, x)
	}
	for n := range 4 {
		in := []bool{n&1 == 1, n&2 == 2}
		want := []bool{in[0]}
		for range len(l) - 1 {
			want = append(want, !want[len(want)-1] && in[1])
		}
		if got, err := g.Eval(in, l); !slices.Equal(got, want) || err != nil {
			t.Error(n, err)
		}
	}
	x, err := g.And(l[len(l)-1]^1, 4)
	refused(t, x, err, api.ErrBound)
}

// TestP93AllPairs: as many gates as there can be, no two alike, and each is found again.
func TestP93AllPairs(t *testing.T) {
	const inputs = 450
	g := withInputs(t, inputs)
	of := map[pair]api.Lit{}
	for a := api.Lit(2); a < 2*inputs+2; a++ {
		for b := a + 1; b < 2*inputs+2 && g.Gates() < api.MaxGates; b++ {
			if a == b^1 {
				continue
			}
			x, err := g.And(b, a)
			if err != nil || x != api.Lit(2*g.Gates()-2) {
				t.Fatal(a, b, x, err)
			}
			of[pair{a, b}] = x
		}
	}
	counted(t, g, api.MaxGates, inputs)
	for p, want := range of {
		if x, err := g.And(p[0], p[1]); x != want || err != nil {
			t.Fatal(p, x, err)
		}
		if a, b, input, err := g.Parts(int(want / 2)); a != p[0] || b != p[1] || input || err != nil {
			t.Fatal(want, a, b, input, err)
		}
	}
}
