package trans

import (
	"math/rand"
	"slices"
	"testing"

	"lustrum/api"
	"lustrum/flat"
	"lustrum/flow"
	"lustrum/step"
	"lustrum/tree"
)

func whole(n int) api.Value { return api.Value{Kind: api.Int, N: n} }

func bit(n int) api.Value { return api.Value{Kind: api.Bool, N: n} }

func values(l ...api.Value) []api.Value { return l }

func drawn(r *rand.Rand, n int) []byte {
	l := make([]byte, n)
	r.Read(l)
	return l
}

func read(t testing.TB, s, node string) flat.Program {
	t.Helper()
	l, err := tree.Read(s)
	if err != nil {
		t.Fatal(s, err)
	}
	p, err := flat.Make(l, node)
	if err != nil {
		t.Fatal(s, err)
	}
	return p
}

// made of equations, with inputs i and b, an output o, and what else is declared.
func made(t testing.TB, own, s string) flat.Program {
	t.Helper()
	if own != "" {
		own = "var " + own + ";"
	}
	return read(t, "node n(i: int; b: bool) returns (o: int); "+own+" let "+s+" tel", "n")
}

// ins of numbers: the bool is true where the number is odd.
func ins(l ...int) [][]api.Value {
	var in [][]api.Value
	for _, n := range l {
		in = append(in, values(whole(n), bit(n&1)))
	}
	return in
}

func text(t testing.TB, p flat.Program) string {
	t.Helper()
	s, err := flat.Text(p)
	if err != nil {
		t.Fatalf("%v: %v", p, err)
	}
	return s
}

// bitsIn of values, the lowest first.
func bitsIn(l []api.Value) []bool {
	var bits []bool
	for _, v := range l {
		many := 1
		if v.Kind == api.Int {
			many = 8
		}
		for i := range many {
			bits = append(bits, v.N>>i&1 == 1)
		}
	}
	return bits
}

// alike: a nil list and an empty one are one thing.
func alike(a, b []flow.Tick) bool {
	return slices.EqualFunc(a, b, func(x, y flow.Tick) bool {
		return slices.Equal(x.Out, y.Out) && slices.Equal(x.Checks, y.Checks) && x.Assert == y.Assert && x.Trap == y.Trap
	})
}

func op(s string, l ...tree.Expr) tree.Expr { return tree.Expr{Op: s, L: l} }

func name(s string) tree.Expr { return tree.Expr{Op: "name", S: s} }

func number(n int) tree.Expr { return tree.Expr{Op: "int", N: n} }

// pair of a program: its gates, and its machine.
type pair struct {
	testing.TB
	System
	p flat.Program
	m *step.Machine
}

func newPair(t testing.TB, p flat.Program) *pair {
	t.Helper()
	s, err := Make(p)
	if err != nil {
		t.Fatal(text(t, p), err)
	}
	m, err := step.New(p, false, 0)
	if err != nil {
		t.Fatal(text(t, p), err)
	}
	return &pair{t, s, p, m}
}

// holds of literals, by such a state and such inputs.
func (x *pair) holds(state, in []api.Value, l ...api.Lit) []bool {
	x.Helper()
	out, err := x.G.Eval(append(bitsIn(in), bitsIn(state)...), l)
	if err != nil {
		x.Fatal(err)
	}
	return out
}

// agree at an instant: the gates with the machine, which is brought into that state.
func (x *pair) agree(state, in []api.Value) flow.Tick {
	x.Helper()
	if err := x.m.Load(state); err != nil {
		x.Fatal(state, err)
	}
	want, err := x.m.Tick(in)
	if err != nil {
		x.Fatal(in, err)
	}
	if got := x.holds(state, in, x.Trap)[0]; got != want.Trap {
		x.Fatalf("%s%v, %v: trap %v", text(x, x.p), state, in, got)
	}
	if want.Trap {
		return want
	}
	for _, c := range []struct {
		what string
		l    []api.Lit
		want []bool
	}{
		{"out", x.Out, bitsIn(want.Out)},
		{"assert", []api.Lit{x.Assert}, []bool{want.Assert}},
		{"checks", x.Checks, want.Checks},
		{"next", x.Next, bitsIn(x.m.State())},
	} {
		if got := x.holds(state, in, c.l...); !slices.Equal(got, c.want) {
			x.Fatalf("%s%v, %v: %s %v, want %v", text(x, x.p), state, in, c.what, got, c.want)
		}
	}
	return want
}
