package word

import (
	"slices"
	"testing"

	"lustrum/api"
	"lustrum/graph"
)

// request of an operator, with words as they must be: one of each operator, and of those that take both bools and ints, one of each.
type request struct {
	op string
	l  [][]api.Lit
}

func requests(t testing.TB, g *graph.Graph) []request {
	t.Helper()
	a, b, c := inputs(t, g, 8), inputs(t, g, 8), inputs(t, g, 3)
	l := []request{
		{"neg", words(a)}, {"not", words(c[:1])}, {"if", words(c[:1], a, b)},
		{"if", words(c[:1], c[1:2], c[2:])}, {"=", words(c[:1], c[1:2])}, {"<>", words(c[:1], c[1:2])},
	}
	for _, op := range ofInts() {
		l = append(l, request{op, words(a, b)})
	}
	for _, op := range ofBools() {
		l = append(l, request{op, words(c[:1], c[2:])})
	}
	return l
}

// spoilt words: the literal at that place is another one.
func spoilt(l [][]api.Lit, i, j int, x api.Lit) [][]api.Lit {
	l = slices.Clone(l)
	l[i] = slices.Clone(l[i])
	l[i][j] = x
	return l
}

// TestP100Strangers: literals that are none of the graph's are told, wherever they stand, also where nothing would hang on them, and nothing is left behind.
func TestP100Strangers(t *testing.T) {
	g := new(graph.Graph)
	all := requests(t, g)
	gates := g.Gates()
	for _, r := range all {
		for i, w := range r.l {
			for j := range w {
				for _, bad := range strangers(g) {
					refusedWith(t, g, r.op, spoilt(r.l, i, j, bad), api.ErrShape)
				}
			}
		}
	}
	zero := make([]api.Lit, 8)
	for _, bad := range strangers(g) {
		for _, c := range []request{
			{"if", words([]api.Lit{1}, []api.Lit{0}, []api.Lit{bad})},
			{"if", words([]api.Lit{0}, []api.Lit{bad}, []api.Lit{0})},
			{"and", words([]api.Lit{0}, []api.Lit{bad})},
			{"=>", words([]api.Lit{0}, []api.Lit{bad})},
			{"not", words([]api.Lit{bad})},
			{"=", words([]api.Lit{bad}, []api.Lit{bad})},
			{"*", words(zero, spoilt(words(zero), 0, 7, bad)[0])},
			{"/", words(spoilt(words(zero), 0, 0, bad)[0], zero)},
		} {
			refusedWith(t, g, c.op, c.l, api.ErrShape)
		}
	}
	if g.Gates() != gates {
		t.Errorf("%d gates, want %d", g.Gates(), gates)
	}
}

// TestP100ShapeAheadOfBound: where both are so.
func TestP100ShapeAheadOfBound(t *testing.T) {
	g := new(graph.Graph)
	all := requests(t, g)
	fill(t, g, api.MaxGates)
	for _, r := range all {
		last := len(r.l) - 1
		for _, bad := range strangers(g) {
			refusedWith(t, g, r.op, spoilt(r.l, last, len(r.l[last])-1, bad), api.ErrShape)
		}
		refusedWith(t, g, r.op, append(slices.Clone(r.l), r.l[0]), api.ErrShape)
		refusedWith(t, g, r.op, r.l[:last], api.ErrShape)
	}
}

// need of a request: how many gates it makes in a graph that has none for it.
func need(t testing.TB, i int) int {
	t.Helper()
	g := new(graph.Graph)
	r := requests(t, g)[i]
	before := g.Gates()
	of(t, g, r.op, r.l...)
	return g.Gates() - before
}

// TestP100Bound: a graph that has not gates enough left, and one that just has them.
func TestP100Bound(t *testing.T) {
	for i := range requests(t, new(graph.Graph)) {
		needed := need(t, i)
		for _, free := range []int{0, 1, needed / 3, needed / 2, needed - 1} {
			if 0 <= free && free < needed {
				tooFew(t, i, free)
			}
		}
		g := new(graph.Graph)
		r := requests(t, g)[i]
		fill(t, g, api.MaxGates-needed)
		of(t, g, r.op, r.l...)
		if g.Gates() != api.MaxGates {
			t.Errorf("%q: %d gates", r.op, g.Gates())
		}
	}
}

// tooFew gates are left for a request; what was there stays right.
func tooFew(t *testing.T, i, free int) {
	t.Helper()
	g := new(graph.Graph)
	r := requests(t, g)[i]
	x, err := g.And(2, 36) // no request has this gate
	if err != nil {
		t.Fatal(err)
	}
	fill(t, g, api.MaxGates-free)
	many := g.Inputs()
	for range 2 {
		refusedWith(t, g, r.op, r.l, api.ErrBound)
	}
	if g.Gates() != api.MaxGates || g.Inputs() != many {
		t.Errorf("%q: %d gates, %d inputs", r.op, g.Gates(), g.Inputs())
	}
	in := make([]bool, many)
	in[0], in[17] = true, true
	if l, err := g.Eval(in, []api.Lit{2, x, 4}); !slices.Equal(l, []bool{true, true, false}) || err != nil {
		t.Error(l, err)
	}
}

// TestP100AtTheBound: what needs no gate, or has all of them, is told by a graph that is full.
func TestP100AtTheBound(t *testing.T) {
	g := new(graph.Graph)
	all := requests(t, g)
	fill(t, g, api.MaxGates-6000)
	type answer struct {
		out  []api.Lit
		trap api.Lit
	}
	var told []answer
	for _, r := range all {
		out, trap := of(t, g, r.op, r.l...)
		told = append(told, answer{out, trap})
	}
	fill(t, g, api.MaxGates)
	for i, r := range all {
		if out, trap := of(t, g, r.op, r.l...); !slices.Equal(out, told[i].out) || trap != told[i].trap {
			t.Errorf("%q: %v, %d, want %v", r.op, out, trap, told[i])
		}
	}
	last := api.Lit(2*api.MaxGates - 1)
	if out, _ := of(t, g, "not", []api.Lit{last}); !slices.Equal(out, []api.Lit{last - 1}) {
		t.Error(out)
	}
	if out, _ := of(t, g, "+", constant(t, 127), constant(t, 2)); !slices.Equal(out, constant(t, -127)) {
		t.Error(out)
	}
	refusedWith(t, g, "and", words([]api.Lit{last}, []api.Lit{last - 2}), api.ErrBound)
}

// TestOtherPanics: only what a maker throws is taken for an error.
func TestOtherPanics(t *testing.T) {
	defer func() {
		if p := recover(); p != "other" {
			t.Errorf("%v", p)
		}
	}()
	caught(func() { panic("other") })
	t.Error("a panic was swallowed")
}
