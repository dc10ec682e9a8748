package prove

import (
	"math/rand"
	"reflect"
	"slices"
	"testing"

	"lustrum/api"
	"lustrum/flat"
	"lustrum/sat"
)

// few: the aim of a program that has few states, and the same by states.
func few(t testing.TB, p flat.Program, c int) (instants, states *aim) {
	t.Helper()
	x := newProver(p, c)
	if !x.isFew {
		t.Fatalf("%sis not few", text(t, p))
	}
	return x.instants, x.instants.byStates()
}

// TestByStates: both ways of laying out come to the same, which is what a second way tells.
func TestByStates(t *testing.T) {
	t.Parallel()
	r := rand.New(rand.NewSource(66))
	steps, bases := [8]int{}, 0
	for range 400 {
		d := drawer{drawn(r, 300)}
		p := d.bools(t, r.Intn(4))
		for c := -1; c < len(p.Checks); c++ {
			s := secondOf(t, p, c)
			first := s.base()
			instants, states := few(t, p, c)
			for k := 1; k < len(steps); k++ {
				least := 1 + r.Intn(k)
				wantBase, wantStep := first > 0 && least <= first && first <= k, s.step(k)
				if s.steps < 0 {
					t.Fatal("too many steps")
				}
				for _, x := range []*aim{instants, states} {
					// Of more instants something else may be wrong, and nothing ahead of it.
					if got := holds(t, x.base(least, k)); wantBase && !got || got && (first == 0 || first > k) {
						t.Fatalf("%s%d: base %d, %d: %v, %d", text(t, p), c, least, k, got, first)
					}
					if got := holds(t, x.step(k)); got != wantStep {
						t.Fatalf("%s%d: step %d: %v", text(t, p), c, k, got)
					}
				}
				if wantBase {
					bases++
				}
				if wantStep {
					steps[k]++
				}
			}
		}
	}
	if bases < 500 || steps[1] < 200 || steps[2] < 80 || steps[4] < 20 || steps[7] < 1 {
		t.Errorf("only %d, %v", bases, steps)
	}
}

// pathOf a table, the longest one of unlike states to what is wrong: all of them are gone through.
func (t *table) pathOf() int {
	on := make([]bool, len(t.ways))
	var back func(at int) int
	back = func(at int) int {
		on[at] = true
		most := 0
		for from, ways := range t.ways {
			if !on[from] && ways[at] {
				most = max(most, back(from))
			}
		}
		on[at] = false
		return most + 1
	}
	most := 0
	for n, is := range t.wrong {
		if is {
			most = max(most, back(n))
		}
	}
	return most
}

// drawnTable of so many states.
func drawnTable(r *rand.Rand, n, way int) *table {
	t := &table{}
	for range n {
		ways := make([]bool, n)
		for i := range ways {
			ways[i] = r.Intn(n) < way
		}
		t.ways = append(t.ways, ways)
		t.wrong = append(t.wrong, r.Intn(4) == 0)
	}
	return t
}

// TestLongest: no path is longer, and often there is one as long.
func TestLongest(t *testing.T) {
	r := rand.New(rand.NewSource(67))
	exact := [10]int{}
	for range 1500 {
		x := drawnTable(r, 1+r.Intn(9), r.Intn(4))
		before := slices.Clone(x.ways[0])
		got, path := x.longest(), x.pathOf()
		if got < path || got > len(x.ways) || !slices.Equal(before, x.ways[0]) {
			t.Fatalf("%v: %d, but %d", x, got, path)
		}
		if got == path {
			exact[got]++
		}
	}
	for n, least := range []int{100, 300, 100, 50, 30, 20, 20, 10, 10, 2} {
		if exact[n] < least {
			t.Errorf("only %v", exact)
		}
	}
}

func TestLongestCases(t *testing.T) {
	for _, c := range []struct {
		ways  [][]int
		wrong []int
		want  int
	}{
		{[][]int{{}}, nil, 0},
		{[][]int{{0}}, []int{0}, 1},
		{[][]int{{1}, {2}, {}}, []int{2}, 3},
		{[][]int{{1}, {2}, {}}, []int{1}, 2},
		{[][]int{{1}, {2}, {}}, []int{0, 1}, 2},
		{[][]int{{1}, {2}, {0}}, []int{1}, 3},
		{[][]int{{2}, {2}, {}}, []int{2}, 2},
		{[][]int{{1, 3}, {0}, {3}, {2, 4}, {}}, []int{4}, 5},
		{[][]int{{4}, {2, 4}, {1}, {4}, {}}, []int{4}, 3},
		{[][]int{{1}, {0}, {3}, {2}, {0, 2}}, []int{0, 2}, 3},
	} {
		x := &table{wrong: make([]bool, len(c.ways))}
		for _, to := range c.ways {
			ways := make([]bool, len(c.ways))
			for _, n := range to {
				ways[n] = true
			}
			x.ways = append(x.ways, ways)
		}
		for _, n := range c.wrong {
			x.wrong[n] = true
		}
		if got := x.longest(); got != c.want {
			t.Errorf("%v to %v: %d, want %d", c.ways, c.wrong, got, c.want)
		}
	}
}

// TestTables: by states, no search of four instants or fewer comes near to its bound.
func TestTables(t *testing.T) {
	t.Parallel()
	r := rand.New(rand.NewSource(68))
	yes := 0
	for range 150 {
		x := drawnTable(r, 33, 1+r.Intn(9))
		d := drawer{drawn(r, 300)}
		instants, _ := few(t, d.bools(t, 5), 0)
		for n := range x.ways {
			x.ways[n][32] = false // nothing leads to the beginning
			x.wrong[n] = n < 3
		}
		y := instants.by(x)
		for k := 1; k <= 4; k++ {
			for _, lay := range []layer{bases(1, k), steps(k)} {
				a, err := sat.Solve(lay(y), api.MaxEffort/100)
				if a.Kind == tired || err != nil {
					t.Fatal(k, a.Kind, err)
				}
				if a.Kind == "yes" {
					yes++
				}
			}
		}
	}
	if yes < 300 || yes > 900 {
		t.Errorf("%d", yes)
	}
}

func TestIsFew(t *testing.T) {
	for n := range 8 {
		d := drawer{drawn(rand.New(rand.NewSource(int64(n))), 300)}
		if n > 5 {
			if newProver(free(t, n-1), 0).isFew {
				t.Errorf("%d memories are few", n)
			}
			continue
		}
		if !newProver(d.bools(t, n), 0).isFew {
			t.Errorf("%d memories are not few", n)
		}
	}
	for _, p := range []flat.Program{
		made(t, "b: bool; i: int) returns (o: bool)", "o = b; check b;"),
		made(t, "b: bool) returns (o: bool; i: int)", "o = b; i = 1; check b;"),
		made(t, "b: bool) returns (o: bool)", "o = 1 = 2; check b;"),
	} {
		if newProver(p, 0).isFew {
			t.Errorf("%shas ints", text(t, p))
		}
	}
}

// TestP161NeverTired: of what a search of instants tires of, and what must be told all the same.
func TestP161NeverTired(t *testing.T) {
	t.Parallel()
	p := parities(t, 3, 21)
	proved(t, p, 0, 4, share-1, 0)
	x := proved(t, p, 0, 4, share, 1)
	again := proved(t, p, 0, 1, api.MaxEffort, 1)
	if !reflect.DeepEqual(x, again) {
		t.Error("unlike")
	}
	_, step := formulas(t, p, 0, 4)
	if holds(t, step) {
		t.Error("it holds")
	}
}

// TestP161NeverTiredOfMore: m0 = m1 is proved of two states, and m2 is wrong behind one.
func TestP161NeverTiredOfMore(t *testing.T) {
	t.Parallel()
	p := parities(t, 3, 20)
	for i := range p.L {
		// Each of them goes on from the next one.
		p.L[i].E.L[1] = renamed(p.L[i].E.L[1], map[string]string{"m0": "m1", "m1": "m2", "m2": "m0"})
	}
	p.Checks = append(p.Checks, op("=", name("m0"), name("m1")), op("=>", op("fby", op("false"), name("m2")), name("m2")))
	proved(t, p, 0, 4, api.MaxEffort, 1)
	proved(t, p, 1, 4, api.MaxEffort, 2)
	proved(t, p, 2, 4, api.MaxEffort, 0)
}

// TestP163Holes: of states that are unlike there are not as many, of which no search in sight has a proof.
func TestP163Holes(t *testing.T) {
	t.Parallel()
	p := free(t, 4)
	proved(t, p, 0, api.MaxDepth, api.MaxEffort, 16)
	proved(t, p, 0, 15, api.MaxEffort, 0)
}
