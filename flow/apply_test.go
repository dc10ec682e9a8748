package flow

import (
	"math"
	"math/big"
	"slices"
	"testing"

	"lustrum/api"
)

func whole(n int) api.Value { return api.Value{Kind: api.Int, N: n} }

func bit(n int) api.Value { return api.Value{Kind: api.Bool, N: n} }

func values(l ...api.Value) []api.Value { return l }

// secondAround takes 256 away, or adds it, as often as it must.
func secondAround(n int64) int {
	for n > 127 {
		n -= 256
	}
	for n < -128 {
		n += 256
	}
	return int(n)
}

// secondInts: what an operator makes of ints, by numbers of any size.
func secondInts(op string, a, b int) (v api.Value, trap bool) {
	x, y, z := big.NewInt(int64(a)), big.NewInt(int64(b)), new(big.Int)
	is := func(b bool) (api.Value, bool) {
		if b {
			return bit(1), false
		}
		return bit(0), false
	}
	switch op {
	case "=":
		return is(x.Cmp(y) == 0)
	case "<>":
		return is(x.Cmp(y) != 0)
	case "<":
		return is(x.Cmp(y) < 0)
	case "<=":
		return is(x.Cmp(y) <= 0)
	case ">":
		return is(x.Cmp(y) > 0)
	case ">=":
		return is(x.Cmp(y) >= 0)
	case "neg":
		z.Neg(x)
	case "+":
		z.Add(x, y)
	case "-":
		z.Sub(x, y)
	case "*":
		z.Mul(x, y)
	case "/", "mod":
		if b == 0 {
			return api.Value{}, true
		}
		rest := new(big.Int)
		z.QuoRem(x, y, rest)
		if op == "mod" {
			z = rest
		}
	}
	return whole(secondAround(z.Int64())), false
}

func applied(t testing.TB, op string, l []api.Value, want api.Value, wantTrap bool) {
	t.Helper()
	if v, trap, err := Apply(op, l); v != want || trap != wantTrap || err != nil {
		t.Fatalf("%s %v: %v, %v, %v, want %v, %v", op, l, v, trap, err, want, wantTrap)
	}
}

// TestP60Known: what the document names, and what lies at the edges.
func TestP60Known(t *testing.T) {
	for _, c := range []struct {
		op      string
		a, b, n int
	}{
		{"+", 127, 1, -128},
		{"+", -128, -128, 0},
		{"+", 127, 127, -2},
		{"-", -128, 1, 127},
		{"-", 0, -128, -128},
		{"-", 127, -128, -1},
		{"*", -128, -1, -128},
		{"*", -128, -128, 0},
		{"*", 127, 127, 1},
		{"*", 100, 3, 44},
		{"*", -128, 127, -128},
		{"/", 7, 2, 3},
		{"/", -7, 2, -3},
		{"/", 7, -2, -3},
		{"/", -7, -2, 3},
		{"/", 1, 2, 0},
		{"/", -1, 2, 0},
		{"/", -128, -1, -128},
		{"/", -128, 1, -128},
		{"/", -128, 127, -1},
		{"/", 127, -128, 0},
		{"mod", 7, 2, 1},
		{"mod", -7, 2, -1},
		{"mod", 7, -2, 1},
		{"mod", -7, -2, -1},
		{"mod", 6, -3, 0},
		{"mod", -128, -1, 0},
		{"mod", -128, 127, -1},
		{"mod", 127, -128, 127},
	} {
		applied(t, c.op, values(whole(c.a), whole(c.b)), whole(c.n), false)
	}
	applied(t, "neg", values(whole(-128)), whole(-128), false)
	applied(t, "neg", values(whole(127)), whole(-127), false)
	applied(t, "neg", values(whole(0)), whole(0), false)
}

// TestP60All: operators of ints for all of the ints, held against the ints at the edges.
func TestP60All(t *testing.T) {
	edges := []int{-128, -127, -64, -3, -2, -1, 0, 1, 2, 3, 10, 64, 126, 127}
	for a := -128; a < 128; a++ {
		v, trap := secondInts("neg", a, 0)
		applied(t, "neg", values(whole(a)), v, trap)
		for _, b := range edges {
			for _, op := range []string{"+", "-", "*", "/", "mod", "=", "<>", "<", "<=", ">", ">="} {
				v, trap := secondInts(op, a, b)
				applied(t, op, values(whole(a), whole(b)), v, trap)
				v, trap = secondInts(op, b, a)
				applied(t, op, values(whole(b), whole(a)), v, trap)
			}
		}
	}
}

// TestP60Traps: by 0, whatever is divided; and nothing else does.
func TestP60Traps(t *testing.T) {
	for a := -128; a < 128; a++ {
		for _, op := range []string{"/", "mod"} {
			applied(t, op, values(whole(a), whole(0)), api.Value{}, true)
		}
		for _, op := range []string{"+", "-", "*"} {
			v, _ := secondInts(op, a, 0)
			applied(t, op, values(whole(a), whole(0)), v, false)
		}
	}
}

func TestP63Bools(t *testing.T) {
	for op, want := range map[string][4]int{ // of 0 0, 0 1, 1 0, 1 1
		"and": {0, 0, 0, 1},
		"or":  {0, 1, 1, 1},
		"xor": {0, 1, 1, 0},
		"=>":  {1, 1, 0, 1},
		"=":   {1, 0, 0, 1},
		"<>":  {0, 1, 1, 0},
	} {
		for i, n := range want {
			applied(t, op, values(bit(i/2), bit(i%2)), bit(n), false)
		}
	}
	applied(t, "not", values(bit(0)), bit(1), false)
	applied(t, "not", values(bit(1)), bit(0), false)
}

func TestP63If(t *testing.T) {
	applied(t, "if", values(bit(1), whole(-128), whole(127)), whole(-128), false)
	applied(t, "if", values(bit(0), whole(-128), whole(127)), whole(127), false)
	applied(t, "if", values(bit(1), bit(0), bit(1)), bit(0), false)
	applied(t, "if", values(bit(0), bit(0), bit(1)), bit(1), false)
}

func refused(t testing.TB, op string, l []api.Value, want error) {
	t.Helper()
	if v, trap, err := Apply(op, l); err != want || v != (api.Value{}) || trap {
		t.Errorf("%q %v: %v, %v, %v, want %v", op, l, v, trap, err, want)
	}
}

func TestP63Shape(t *testing.T) {
	wrong := api.Value{Kind: 9, N: 999}
	for _, op := range []string{"", "int", "true", "false", "name", "pre", "->", "fby", "call", "then", "NOT", "==", "+ "} {
		for n := range 5 {
			refused(t, op, slices.Repeat(values(whole(1)), n), api.ErrShape)
			refused(t, op, slices.Repeat(values(wrong), n), api.ErrShape)
		}
	}
	for many, ops := range [][]string{
		1: {"not", "neg"},
		2: {"and", "or", "xor", "=>", "=", "<>", "<", "<=", ">", ">=", "+", "-", "*", "/", "mod"},
		3: {"if"},
	} {
		for _, op := range ops {
			for n := range 6 {
				want := api.ErrShape
				if n == many {
					want = api.ErrType // that there are none of these values comes behind
				}
				refused(t, op, slices.Repeat(values(wrong), n), want)
			}
			refused(t, op, nil, api.ErrShape)
			refused(t, op, make([]api.Value, 100000), api.ErrShape)
		}
	}
}

func TestP63Type(t *testing.T) {
	b, i := bit(1), whole(1)
	for _, op := range []string{"and", "or", "xor", "=>"} {
		for _, l := range [][]api.Value{{i, i}, {i, b}, {b, i}} {
			refused(t, op, l, api.ErrType)
		}
	}
	for _, op := range []string{"<", "<=", ">", ">=", "+", "-", "*", "/", "mod"} {
		for _, l := range [][]api.Value{{b, b}, {i, b}, {b, i}, {i, bit(0)}} {
			refused(t, op, l, api.ErrType)
		}
	}
	for _, op := range []string{"=", "<>"} {
		for _, l := range [][]api.Value{{i, b}, {b, i}} {
			refused(t, op, l, api.ErrType)
		}
	}
	refused(t, "not", values(i), api.ErrType)
	refused(t, "neg", values(b), api.ErrType)
	for _, l := range [][]api.Value{{i, i, i}, {i, b, b}, {b, i, b}, {b, b, i}} {
		refused(t, "if", l, api.ErrType)
	}
}

// TestP63None: values that are none, at each place, also where they are not looked at, or it would trap.
func TestP63None(t *testing.T) {
	for _, n := range []int{2, -1, 128, math.MaxInt, math.MinInt} {
		v := bit(n)
		refused(t, "not", values(v), api.ErrType)
		for _, op := range []string{"and", "or", "xor", "=>", "=", "<>"} {
			for _, l := range [][]api.Value{{v, bit(0)}, {bit(0), v}, {v, bit(1)}, {bit(1), v}, {v, v}} {
				refused(t, op, l, api.ErrType)
			}
		}
		for _, l := range [][]api.Value{{v, whole(0), whole(0)}, {bit(1), bit(1), v}, {bit(0), v, bit(1)}} {
			refused(t, "if", l, api.ErrType)
		}
	}
	for _, n := range []int{128, -129, 256, -256, math.MaxInt, math.MinInt} {
		v := whole(n)
		refused(t, "neg", values(v), api.ErrType)
		for _, op := range []string{"=", "<>", "<", "<=", ">", ">=", "+", "-", "*", "/", "mod"} {
			for _, l := range [][]api.Value{{v, whole(0)}, {whole(0), v}, {v, v}} {
				refused(t, op, l, api.ErrType)
			}
		}
		for _, l := range [][]api.Value{{bit(1), whole(0), v}, {bit(0), v, whole(0)}} {
			refused(t, "if", l, api.ErrType)
		}
	}
	for _, kind := range []int{0, 3, -1, math.MaxInt} {
		v := api.Value{Kind: kind}
		for _, op := range []string{"=", "<>", "and", "+"} {
			for _, l := range [][]api.Value{{v, v}, {v, whole(0)}, {bit(0), v}} {
				refused(t, op, l, api.ErrType)
			}
		}
		refused(t, "if", values(bit(0), v, v), api.ErrType)
		refused(t, "if", values(v, v, v), api.ErrType)
	}
}

func TestP63OnlyRead(t *testing.T) {
	all := values(whole(-7), whole(2), whole(99), bit(7))
	before := slices.Clone(all)
	for _, op := range []string{"/", "mod", "+", "-", "*", "<"} {
		for range 2 {
			v, trap := secondInts(op, -7, 2)
			applied(t, op, all[:2], v, trap)
		}
	}
	if !slices.Equal(all, before) {
		t.Errorf("changed to %v", all)
	}
}
