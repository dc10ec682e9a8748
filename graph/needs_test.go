package graph

import (
	"math"
	"math/rand"
	"slices"
	"testing"

	"lustrum/api"
)

// needed by these literals, by way of Parts: from gate to gate.
func needed(t testing.TB, g *Graph, l []api.Lit) []bool {
	t.Helper()
	out := make([]bool, g.Gates())
	for l = slices.Clone(l); len(l) > 0; l = l[1:] {
		n := int(l[0] / 2)
		a, b, input, _ := g.Parts(n)
		if !out[n] && n > 0 && !input {
			l = append(l, a, b)
		}
		out[n] = true
	}
	return out
}

func TestNeeds(t *testing.T) {
	g := withInputs(t, 3)
	for _, l := range [][2]api.Lit{{2, 4}, {7, 4}, {8, 11}} {
		if _, err := g.And(l[0], l[1]); err != nil {
			t.Fatal(err)
		}
	}
	for _, c := range []struct {
		l    []api.Lit
		want string
	}{
		{nil, ".......\n"},
		{[]api.Lit{0}, "0......\n"},
		{[]api.Lit{1, 1}, "0......\n"},
		{[]api.Lit{4}, "..2....\n"},
		{[]api.Lit{7, 2}, ".1.3...\n"},
		{[]api.Lit{8}, ".12.4..\n"},
		{[]api.Lit{11}, "..23.5.\n"},
		{[]api.Lit{13}, ".123456\n"},
		{[]api.Lit{9, 1, 6}, "01234..\n"},
	} {
		l, err := g.Needs(c.l)
		s := ""
		for n, is := range l {
			s += map[bool]string{true: string(rune('0' + n)), false: "."}[is]
		}
		if s+"\n" != c.want || err != nil {
			t.Errorf("%v: %q, %v, want %q", c.l, s, err, c.want)
		}
	}
	if l, err := new(Graph).Needs([]api.Lit{1}); !slices.Equal(l, []bool{true}) || err != nil {
		t.Errorf("%v, %v", l, err)
	}
}

func TestNeedsShape(t *testing.T) {
	g := withInputs(t, 3)
	for _, l := range [][]api.Lit{{8}, {2, 9}, {-1}, {0, -2, 4}, {math.MaxInt}, {2, math.MinInt}} {
		if out, err := g.Needs(l); len(out) > 0 || err != api.ErrShape {
			t.Errorf("%v: %v, %v", l, out, err)
		}
	}
	if _, err := new(Graph).Needs([]api.Lit{2}); err != api.ErrShape {
		t.Error(err)
	}
}

func TestNeedsRandom(t *testing.T) {
	r := rand.New(rand.NewSource(95))
	for range 300 {
		g := grown(t, drawn(r, r.Intn(1500)))
		gates := g.Gates()
		for range 10 {
			l := make([]api.Lit, r.Intn(4))
			for i := range l {
				l[i] = api.Lit(r.Intn(2 * gates))
			}
			before := slices.Clone(l)
			got, err := g.Needs(l)
			if !slices.Equal(got, needed(t, g, l)) || err != nil || !slices.Equal(l, before) || g.Gates() != gates {
				t.Fatalf("%v: %v, %v", l, got, err)
			}
		}
	}
}
