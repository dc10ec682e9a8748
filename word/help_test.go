package word

import (
	"math"
	"slices"
	"testing"

	"lustrum/api"
	"lustrum/flow"
	"lustrum/graph"
)

func whole(n int) api.Value { return api.Value{Kind: api.Int, N: n} }

func bit(n int) api.Value { return api.Value{Kind: api.Bool, N: n} }

func words(l ...[]api.Lit) [][]api.Lit { return l }

// ofInts are operators of two ints, ofBools those of two bools alone.
func ofInts() []string {
	return []string{"+", "-", "*", "/", "mod", "=", "<>", "<", "<=", ">", ">="}
}

func ofBools() []string { return []string{"and", "or", "xor", "=>"} }

func operators() []string { return slices.Concat(ofInts(), ofBools(), []string{"not", "neg", "if"}) }

// noOperators: some are of the language, but of no values alone.
func noOperators() []string {
	return []string{"", "pre", "->", "fby", "int", "true", "false", "name", "call", "let", "&", "==", "+ ", " +", "NOT", "Mod", "not\x00", "\xff"}
}

// edges of the ints, and some between.
func edges() []int {
	return []int{-128, -127, -126, -100, -65, -64, -63, -10, -7, -3, -2, -1, 0, 1, 2, 3, 5, 7, 10, 16, 63, 64, 65, 100, 126, 127}
}

// inputs that are new, as many as are asked for.
func inputs(t testing.TB, g *graph.Graph, n int) []api.Lit {
	t.Helper()
	l := make([]api.Lit, n)
	for i := range l {
		x, err := g.Input()
		if err != nil {
			t.Fatal(err)
		}
		l[i] = x
	}
	return l
}

func fill(t testing.TB, g *graph.Graph, gates int) {
	t.Helper()
	inputs(t, g, gates-g.Gates())
}

func constant(t testing.TB, n int) []api.Lit {
	t.Helper()
	l, err := Const(n)
	if err != nil {
		t.Fatal(err)
	}
	return l
}

// of an operator that must come to something.
func of(t testing.TB, g *graph.Graph, op string, l ...[]api.Lit) (out []api.Lit, trap api.Lit) {
	t.Helper()
	out, trap, err := Of(g, op, l)
	if err != nil {
		t.Fatalf("%q of %v: %v", op, l, err)
	}
	if op != "/" && op != "mod" && trap != 0 {
		t.Fatalf("%q of %v: trap %d", op, l, trap)
	}
	return out, trap
}

// refusedWith such an error, and with nothing else.
func refusedWith(t testing.TB, g *graph.Graph, op string, l [][]api.Lit, want error) {
	t.Helper()
	out, trap, err := Of(g, op, l)
	if len(out) != 0 || trap != 0 || err != want {
		t.Errorf("%q of %v: %v, %d, %v, want %v", op, l, out, trap, err, want)
	}
}

// strangers to a graph.
func strangers(g *graph.Graph) []api.Lit {
	next := api.Lit(2 * g.Gates())
	return []api.Lit{-1, -2, next, next + 1, 2 * api.MaxGates, math.MaxInt, math.MinInt}
}

// tables of all gates: bit n tells of the inputs that are the bits of n, the first input being the lowest one.
type tables [][]uint64

// tablesOf a graph by its parts alone, 64 of all that its inputs can be at once.
func tablesOf(t testing.TB, g *graph.Graph) tables {
	t.Helper()
	size := max(1, 1<<g.Inputs()/64)
	all := tables{make([]uint64, size)}
	came := 0
	for n := 1; n < g.Gates(); n++ {
		a, b, input, err := g.Parts(n)
		if err != nil {
			t.Fatal(err)
		}
		row := make([]uint64, size)
		for i := range row {
			if input {
				row[i] = inputRow(came, i)
			} else {
				row[i] = all.row(a, i) & all.row(b, i)
			}
		}
		if input {
			came++
		}
		all = append(all, row)
	}
	return all
}

func inputRow(input, i int) uint64 {
	row := uint64(0)
	for n := range 64 {
		row |= uint64((64*i+n)>>input&1) << n
	}
	return row
}

func (l tables) row(x api.Lit, i int) uint64 {
	if x&1 == 1 {
		return ^l[x/2][i]
	}
	return l[x/2][i]
}

func (l tables) holds(x api.Lit, n int) bool { return l.row(x, n/64)>>(n%64)&1 == 1 }

// value of a word, the inputs being the bits of n.
func (l tables) value(t testing.TB, out []api.Lit, n int) api.Value {
	t.Helper()
	bits := make([]bool, len(out))
	for i, x := range out {
		bits[i] = l.holds(x, n)
	}
	v, err := Value(bits)
	if err != nil {
		t.Fatal(err)
	}
	return v
}

// comesTo what flow.Apply tells of these values, where the inputs are the bits of n.
func (l tables) comesTo(t testing.TB, op string, out []api.Lit, trap api.Lit, n int, values ...api.Value) {
	t.Helper()
	want, traps, err := flow.Apply(op, values)
	if err != nil {
		t.Fatal(op, values, err)
	}
	if l.holds(trap, n) != traps {
		t.Fatalf("%s of %v: trap %v, want %v", op, values, !traps, traps)
	}
	if v := l.value(t, out, n); !traps && v != want {
		t.Fatalf("%s of %v: %v, want %v", op, values, v, want)
	}
}

// low int that is the lowest bits of n.
func low(n int) api.Value { return whole(int(int8(n))) }
