package trans

import (
	"fmt"
	"slices"
	"testing"

	"lustrum/api"
	"lustrum/flat"
	"lustrum/graph"
	"lustrum/tree"
)

// inputsOf a graph, in the order in which they came.
func inputsOf(g *graph.Graph) []api.Lit {
	var l []api.Lit
	for n := 1; n < g.Gates(); n++ {
		if _, _, input, _ := g.Parts(n); input {
			l = append(l, api.Lit(2*n))
		}
	}
	return l
}

// TestP140Lengths: how many bits of each there are, and that the graph has no inputs but In and Mem, in this order.
func TestP140Lengths(t *testing.T) {
	for _, c := range []struct {
		own, s           string
		mem, out, checks int
	}{
		{"", "o = i;", 1, 8, 0},
		{"", "o = 1 -> pre i; check true -> pre b;", 10, 8, 1},
		{"", "o = 7 fby i; check b; check true fby b; check i = 3;", 10, 8, 3},
		{"x: bool", "o = 0 -> pre i + pre i; x = pre b; assert b fby i > 0;", 19, 8, 0},
		{"x: int", "o = 0; x = pre (i / i) / pre o;", 17, 8, 0},
	} {
		s := newPair(t, made(t, c.own, c.s)).System
		if len(s.In) != 9 || len(s.Mem) != c.mem || len(s.Next) != c.mem || len(s.Init) != c.mem || len(s.Out) != c.out || len(s.Checks) != c.checks {
			t.Errorf("%s: %+v", c.s, s)
		}
		if l := append(slices.Clone(s.In), s.Mem...); !slices.Equal(l, inputsOf(s.G)) || s.G.Inputs() != len(l) {
			t.Errorf("%s: %v, but the graph has %v", c.s, l, inputsOf(s.G))
		}
		for i, b := range s.Init {
			if b != (i == 0) {
				t.Errorf("%s: %v", c.s, s.Init)
			}
		}
	}
}

// TestP140Nothing: of a program of nothing there is still its state.
func TestP140Nothing(t *testing.T) {
	s, err := Make(flat.Program{})
	if err != nil || s.G.Gates() != 2 || len(s.In)+len(s.Out)+len(s.Checks) != 0 {
		t.Errorf("%+v, %v", s, err)
	}
	if fmt.Sprint(s.Mem, s.Next, s.Init, s.Assert, s.Trap) != "[2] [0] [true] 1 0" {
		t.Errorf("%+v", s)
	}
}

// TestP140Bits: an int's lowest bit is the first one, of inputs, memories and outputs.
func TestP140Bits(t *testing.T) {
	x := newPair(t, read(t, "node n(b: bool; i: int; c: bool; j: int) returns (j1: int; c1: bool; o: int; b1: bool); let b1 = b; o = i; c1 = c; j1 = j; assert true -> pre b and pre i = 3 and pre c and pre j = 4; tel", "n"))
	in := values(bit(1), whole(1), bit(0), whole(-128))
	state := values(bit(0), bit(1), whole(2), bit(0), whole(64))
	if got := x.holds(state, in, x.In...); !slices.Equal(got, []bool{true, true, false, false, false, false, false, false, false, false, false, false, false, false, false, false, false, true}) {
		t.Errorf("in %v", got)
	}
	if got := x.holds(state, in, x.Mem...); !slices.Equal(got, []bool{false, true, false, true, false, false, false, false, false, false, false, false, false, false, false, false, false, true, false}) {
		t.Errorf("mem %v", got)
	}
	if got := x.holds(state, in, x.Out...); !slices.Equal(got, slices.Concat(bitsIn(in[3:]), bitsIn(in[2:3]), bitsIn(in[1:2]), bitsIn(in[:1]))) {
		t.Errorf("out %v", got)
	}
	if got := x.holds(state, in, x.Next...); !slices.Equal(got, append([]bool{false}, bitsIn(in)...)) {
		t.Errorf("next %v", got)
	}
}

type instantCase struct {
	state []api.Value
	in    [][]api.Value
	want  string
}

// TestP140Instants: what gates tell of some states, said by hand; the machine agrees.
func TestP140Instants(t *testing.T) {
	first := func(l ...api.Value) []api.Value { return append(values(bit(1)), l...) }
	later := func(l ...api.Value) []api.Value { return append(values(bit(0)), l...) }
	for _, c := range []struct {
		own, s string
		l      []instantCase
	}{
		{"", "o = 1 -> pre o + i;", []instantCase{
			{first(whole(0)), ins(7), "[1] true []"},
			{first(whole(99)), ins(7), "[1] true []"}, // what lies in memories at the first instant is not seen
			{later(whole(99)), ins(7, -1, 100), "[106] true [] [98] true [] [-57] true []"},
		}},
		{"", "o = 10 / i; assert b; check i > 3; check i < 9;", []instantCase{
			{first(), ins(0, 5, 2, 9), "trap [2] true [true true] [5] false [false true] [1] true [true false]"},
			{later(), ins(0, 5, 2, 9), "trap [2] true [true true] [5] false [false true] [1] true [true false]"},
		}},
		// late: it does not trap at the first instant, by whatever memories
		{"", "o = 3 -> 10 / pre i;", []instantCase{
			{first(whole(0)), ins(0), "[3] true []"},
			{first(whole(5)), ins(0), "[3] true []"},
			{later(whole(0)), ins(0), "trap"},
			{later(whole(5)), ins(0), "[2] true []"},
		}},
		// not late: it does
		{"", "o = 3 -> pre i + 10 / i;", []instantCase{
			{first(whole(1)), ins(0, 5), "trap [3] true []"},
			{later(whole(1)), ins(0, 5), "trap [3] true []"},
		}},
		{"x: int", "x = 7 mod pre i; o = 1; assert true -> x = 1; assert true fby b;", []instantCase{
			{first(whole(0), bit(0)), ins(4), "[1] true []"},
			{later(whole(3), bit(1)), ins(4), "[1] true []"},
			{later(whole(2), bit(0)), ins(4), "[1] false []"},
			{later(whole(4), bit(1)), ins(4), "[1] false []"},
			{later(whole(0), bit(1)), ins(4), "trap"},
		}},
	} {
		x := newPair(t, made(t, c.own, c.s))
		for _, k := range c.l {
			got := ""
			for _, in := range k.in {
				if tick := x.agree(k.state, in); tick.Trap {
					got += " trap"
				} else {
					got += fmt.Sprint(" [", tick.Out[0].N, "] ", tick.Assert, " ", tick.Checks)
				}
			}
			if got != " "+k.want {
				t.Errorf("%s%v: %s, want %s", c.s, k.state, got, k.want)
			}
		}
	}
}

// TestP140Traps: wherever a division stands, also where nothing hangs on it.
func TestP140Traps(t *testing.T) {
	for _, s := range []string{
		"o = 1; x = 1 / i;",
		"o = 1; x = 1 mod i;",
		"o = 0 * (1 / i); x = 1;",
		"o = if b then 1 / i else 1; x = 1;",
		"o = if not b then 1 / i else 1; x = 1;",
		"o = 1 -> 1 / i; x = 1;",
		"o = 1 / i -> 1; x = 1;",
		"o = 1 fby 1 / i; x = 1;",
		"o = 1 / i fby 1; x = 1;",
		"o = 1; x = pre (1 / i);",
		"o = 1; x = 1; assert true or 1 / i = 1;",
		"o = 1; x = 1; check 1 / i = 1 and false;",
		"o = 1; x = 1; assert false; assert 2 mod i > 3;",
	} {
		x := newPair(t, made(t, "x: int", s))
		state := x.m.State()
		for _, first := range []int{1, 0} {
			state[0] = bit(first)
			for n := -2; n <= 2; n++ {
				for b := range 2 {
					if tick := x.agree(state, values(whole(n), bit(b))); tick.Trap != (n == 0) {
						t.Errorf("%s%d: %v", s, n, tick)
					}
				}
			}
		}
	}
	if s := newPair(t, made(t, "", "o = i / 3 + i mod -7 * (5 / 1);")); s.Trap != 0 {
		t.Error("what never traps:", s.Trap)
	}
	if s := newPair(t, made(t, "", "o = i / (2 - 2);")); s.Trap != 1 {
		t.Error("what always traps:", s.Trap)
	}
}

// TestP140Operators: each of them, at edges of ints, in a program.
func TestP140Operators(t *testing.T) {
	edges := []int{-128, -127, -64, -3, -2, -1, 0, 1, 2, 3, 10, 64, 126, 127}
	head := []tree.Var{{Name: "i", Kind: api.Int}, {Name: "j", Kind: api.Int}, {Name: "b", Kind: api.Bool}, {Name: "c", Kind: api.Bool}}
	i, j, b, c := name("i"), name("j"), name("b"), name("c")
	p := flat.Program{In: head}
	add := func(kind int, e tree.Expr) {
		n := fmt.Sprint("f", len(p.L))
		p.L = append(p.L, flat.Flow{Name: n, Kind: kind, E: e})
		p.Out = append(p.Out, n)
	}
	for _, s := range []string{"+", "-", "*", "/", "mod"} {
		add(api.Int, op(s, i, j))
	}
	for _, s := range []string{"<", "<=", ">", ">=", "=", "<>"} {
		add(api.Bool, op(s, i, j))
	}
	for _, s := range []string{"and", "or", "xor", "=>", "=", "<>"} {
		add(api.Bool, op(s, b, c))
	}
	add(api.Bool, op("not", b))
	add(api.Int, op("neg", i))
	add(api.Int, op("if", b, i, j))
	add(api.Bool, op("if", c, b, op("true")))
	add(api.Bool, op("->", b, op("false")))
	add(api.Int, op("->", i, j))
	add(api.Int, op("fby", i, j))
	add(api.Bool, op("fby", c, b))
	add(api.Int, number(127))
	x := newPair(t, p)
	for _, n := range edges {
		for _, m := range edges {
			for k := range 8 {
				x.agree(values(bit(k>>2), whole(m^1), bit(k&1)), values(whole(n), whole(m), bit(k&1), bit(k>>1&1)))
			}
		}
	}
}
