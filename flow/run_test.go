package flow

import (
	"errors"
	"math"
	"reflect"
	"slices"
	"strconv"
	"strings"
	"testing"

	"lustrum/api"
	"lustrum/flat"
	"lustrum/tree"
)

func read(t testing.TB, s, node string) flat.Program {
	t.Helper()
	l, err := tree.Read(s)
	if err != nil {
		t.Fatal(s, err)
	}
	p, err := flat.Make(l, node)
	if err != nil {
		t.Fatal(s, err)
	}
	return p
}

// made of equations, with inputs i and b, an output o, and what else is declared.
func made(t testing.TB, own, s string) flat.Program {
	t.Helper()
	if own != "" {
		own = "var " + own + ";"
	}
	return read(t, "node n(i: int; b: bool) returns (o: int); "+own+" let "+s+" tel", "n")
}

// ins of numbers: the bool is true where the number is odd.
func ins(l ...int) [][]api.Value {
	var in [][]api.Value
	for _, n := range l {
		in = append(in, values(whole(n), bit(n&1)))
	}
	return in
}

// told of ticks: outputs; `?` where an assert does not hold, `!` with the numbers of checks that do not.
func told(l []Tick) string {
	var words []string
	for _, t := range l {
		if t.Trap {
			words = append(words, "trap")
			continue
		}
		s := ""
		for i, v := range t.Out {
			if i > 0 {
				s += ","
			}
			s += strconv.Itoa(v.N)
		}
		if !t.Assert {
			s += "?"
		}
		for i, holds := range t.Checks {
			if !holds {
				s += "!" + strconv.Itoa(i)
			}
		}
		words = append(words, s)
	}
	return strings.Join(words, " ")
}

// nils of which each may be handed in.
var nils = []struct {
	b bool
	n int
}{{false, 0}, {true, 0}, {false, 1}, {true, -1}, {true, 127}, {false, -128}}

// runs by each nil, and answers what is told by all of them.
func runs(t testing.TB, p flat.Program, in [][]api.Value) []Tick {
	t.Helper()
	var first []Tick
	for i, x := range nils {
		l, err := Run(p, in, x.b, x.n)
		if err != nil {
			t.Fatal(err)
		}
		if i == 0 {
			first = l
		} else if !reflect.DeepEqual(l, first) {
			t.Fatalf("nil %v: %v, but %v", x, l, first)
		}
	}
	return first
}

type runCase struct {
	own, s string
	in     []int
	want   string
}

func tryAll(t *testing.T, cases []runCase) {
	t.Helper()
	for _, c := range cases {
		if got := told(runs(t, made(t, c.own, c.s), ins(c.in...))); got != c.want {
			t.Errorf("%s: %q, want %q", c.s, got, c.want)
		}
	}
}

func TestP61Values(t *testing.T) {
	tryAll(t, []runCase{
		{"", "o = i;", []int{5, -128, 127}, "5 -128 127"},
		{"", "o = 7;", []int{5, 6}, "7 7"},
		{"", "o = if b then 1 else 2;", []int{1, 2, 3}, "1 2 1"},
		{"", "o = if true then 1 else 2;", []int{1}, "1"},
		{"", "o = if false then 1 else 2;", []int{1}, "2"},
		{"", "o = -i;", []int{-128, 3}, "-128 -3"},
		{"", "o = 1 -> pre o + 1;", []int{0, 0, 0}, "1 2 3"},
		{"", "o = 126 -> pre o + 1;", []int{0, 0, 0}, "126 127 -128"},
		{"", "o = i -> i * 2;", []int{4, 5, 6}, "4 10 12"},
		{"", "o = 9 -> pre i;", []int{4, 5, 6}, "9 4 5"},
		{"", "o = 9 fby i;", []int{4, 5, 6}, "9 4 5"},
		{"", "o = i fby o + 1;", []int{4, 50, 60}, "4 5 6"},
		{"", "o = (0 -> pre o) + i;", []int{1, 2, 3, 4}, "1 3 6 10"},
		// what is two instants ago, in one term and by names
		{"", "o = 8 -> pre (9 -> pre i);", []int{1, 2, 3, 4}, "8 9 1 2"},
		{"", "o = 8 fby 9 fby i;", []int{1, 2, 3, 4}, "8 9 1 2"},
		{"", "o = 7 fby (8 fby (9 -> pre i));", []int{1, 2, 3, 4, 5}, "7 8 9 1 2"},
		{"x: int", "o = 8 -> pre x; x = 9 -> pre i;", []int{1, 2, 3, 4}, "8 9 1 2"},
		// an arrow's first value is seen once, however deep it stands
		{"", "o = 1 -> 2 -> 3;", []int{0, 0, 0}, "1 3 3"},
		{"", "o = (1 -> 2) -> 3;", []int{0, 0, 0}, "1 3 3"},
		{"", "o = 0 -> pre (1 -> 2);", []int{0, 0, 0}, "0 1 2"},
		// flows stand in any order
		{"x: int; y: int", "o = x + 1; x = y * 2; y = 0 -> pre o;", []int{0, 0, 0, 0}, "1 3 7 15"},
		{"x: int; y: int", "x = 0 -> pre y; y = 1 -> pre x + pre y; o = x;", []int{0, 0, 0, 0, 0, 0, 0}, "0 1 1 2 3 5 8"},
		// late flows, of which the first value is not used
		{"x: int", "x = pre i; o = 0 -> x;", []int{3, 4, 5}, "0 3 4"},
		{"x: int; y: int", "x = pre i; y = x + x; o = 5 -> y;", []int{3, 4, 5}, "5 6 8"},
		{"x: bool", "x = not pre b; o = if true -> x then 1 else 0;", []int{1, 1, 2, 3}, "1 0 0 1"},
		{"x: int", "x = pre i -> i; o = 5 -> x;", []int{3, 4, 5}, "5 4 5"},
		{"x: int", "x = pre i fby i; o = 5 -> x;", []int{3, 4, 5}, "5 3 4"},
		{"x: int", "x = if pre b then i else 1; o = 5 -> x;", []int{3, 4, 6}, "5 4 1"},
		{"x: int", "x = if b then pre i else i; o = 0 -> x;", []int{3, 4, 5}, "0 4 4"},
		{"x: bool", "x = pre i = pre i; o = 3 -> if x then 1 else 0;", []int{3, 4, 5}, "3 1 1"},
	})
}

// TestP61Nil: at the first instant what is late is NIL, whatever its term would make of its parts. Run does not show it (P64): it is looked at from inside.
func TestP61Nil(t *testing.T) {
	p := made(t, "x: int; y: bool; z: int; u: bool; v: int; w: int", "o = 1 -> x; x = pre i + 5; y = pre b = pre b; z = x * 0; u = not y; v = 7 / x; w = x -> 3;")
	for _, c := range nils {
		code, err := Compile(p, c.b, c.n)
		if err != nil {
			t.Fatal(err)
		}
		n, b := strconv.Itoa(c.n), strconv.Itoa(truth(c.b))
		x := newInstant(code, code.Start())
		x.workAll(values(whole(-4), bit(0)))
		if got, want := ofFlows(x, p), strings.Join([]string{"1", n, b, n, b, n, n}, " "); got != want {
			t.Errorf("nil %v: %s, want %s", c, got, want)
		}
		x = newInstant(code, x.state())
		x.workAll(values(whole(9), bit(1)))
		if got, want := ofFlows(x, p), "1 1 1 0 0 7 3"; got != want {
			t.Errorf("nil %v: %s, want %s", c, got, want)
		}
	}
}

func countParts(e tree.Expr) int {
	n := 1
	for _, part := range e.L {
		n += countParts(part)
	}
	return n
}

// ofFlows are the values of all flows: their whole terms are the last of their parts.
func ofFlows(x *instant, p flat.Program) string {
	var l []string
	n := len(p.In)
	for _, f := range p.L {
		n += countParts(f.E)
		l = append(l, strconv.Itoa(x.values[n-1]))
	}
	return strings.Join(l, " ")
}

// TestP61Calls: a call's flows go on from instant to instant, each call's by itself (P44).
func TestP61Calls(t *testing.T) {
	s := "node sum(u: int) returns (v: int); let v = u -> pre v + u; tel\n" +
		"node two(u: int) returns (a: int; z: bool); let a = sum(u); z = (0 -> pre a) < a; check u <> 3; assert u > -5; tel\n" +
		"node m(i: int) returns (o: int; p: bool; q: int); let (o, p) = two(i); q = sum(sum(i)) - o; tel"
	p := read(t, s, "m")
	in := [][]api.Value{{whole(1)}, {whole(2)}, {whole(3)}, {whole(-6)}, {whole(4)}}
	l, err := Run(p, in, false, 0)
	if got := told(l); err != nil || got != "1,1,0 3,1,1 6,1,4!0 0,0,10? 4,1,10" {
		t.Errorf("%q, %v", got, err)
	}
}

// TestP61Traps: a term that divides by 0 traps, wherever it stands, and whatever of it is used.
func TestP61Traps(t *testing.T) {
	tryAll(t, []runCase{
		{"", "o = 10 / i;", []int{5, 0, 2}, "2 trap"},
		{"", "o = 10 mod i;", []int{4, 0, 2}, "2 trap"},
		{"", "o = i / 0;", []int{4}, "trap"},
		{"", "o = 0 / 0;", []int{4}, "trap"},
		{"", "o = 0 * (1 / i);", []int{4, 0}, "0 trap"},
		// in what is not chosen
		{"", "o = if i = 0 then 2 else 10 / i;", []int{5, 0}, "2 trap"},
		{"", "o = if i <> 0 then 10 / i else 2;", []int{5, 0}, "2 trap"},
		{"", "o = if 10 / i = 2 then 7 else 7;", []int{5, 0}, "7 trap"},
		{"", "o = if true or 1 / i = 1 then 7 else 7;", []int{5, 0}, "7 trap"},
		{"", "o = if false and 1 / i = 1 then 7 else 8;", []int{5, 0}, "8 trap"},
		{"", "o = if false => (1 / i = 1) then 7 else 8;", []int{5, 0}, "7 trap"},
		// in what comes only later, or was only at the first instant
		{"", "o = 1 -> 10 / i;", []int{0, 5}, "trap"},
		{"", "o = 1 -> 10 / i;", []int{5, 5, 0}, "1 2 trap"},
		{"", "o = 10 / i -> 1;", []int{5, 5, 0}, "2 1 trap"},
		{"", "o = 10 / i fby 1;", []int{5, 5, 0}, "2 1 trap"},
		// at its own instant, not when what it had is asked for
		{"", "o = 1 -> pre (10 / i);", []int{5, 2, 0}, "1 2 trap"},
		{"", "o = 1 -> pre (10 / i);", []int{0, 2}, "trap"},
		{"", "o = 1 fby 10 / i;", []int{5, 2, 0}, "1 2 trap"},
		{"", "o = 1 fby 10 / i;", []int{0, 2}, "trap"},
		{"", "o = 1 -> pre (2 -> pre (10 / i));", []int{0}, "trap"},
		{"", "o = 1 -> pre (2 -> pre (10 / i));", []int{5, 2, 1, 0}, "1 2 2 trap"},
		{"", "o = 1 fby 2 fby 10 / i;", []int{5, 2, 1, 0}, "1 2 2 trap"},
		// in flows that nothing uses, asserts and checks
		{"x: int", "o = i; x = 1 / i;", []int{3, 0}, "3 trap"},
		{"x: bool", "o = i; x = b or 1 mod i = 1;", []int{3, 0}, "3 trap"},
		{"", "o = i; assert 1 / i < 2;", []int{3, 0}, "3 trap"},
		{"", "o = i; assert false; assert 1 / i < 2;", []int{3, 0}, "3? trap"},
		{"", "o = i; check 1 / i < 2;", []int{3, 0}, "3 trap"},
		{"", "o = i; check 1 / i < 2 and false;", []int{3, 0}, "3!0 trap"},
		{"", "o = i; check true -> pre (1 / i) < 2;", []int{3, 0}, "3 trap"},
		{"", "o = i; check true fby 1 / i < 2;", []int{3, 0}, "3 trap"},
	})
}

// TestP61Late: what is late does not trap at the first instant, and what is not late in it does.
func TestP61Late(t *testing.T) {
	tryAll(t, []runCase{
		{"", "o = 0 -> 10 / pre i;", []int{5, 2, 0, 1}, "0 2 5 trap"},
		{"", "o = 0 -> 10 mod pre i;", []int{4, 3, 0, 1}, "0 2 1 trap"},
		{"", "o = 0 -> pre i / i;", []int{0, 2, 1}, "0 0 2"},
		{"", "o = 0 -> pre i / 0;", []int{1, 2}, "0 trap"},
		{"", "o = 0 -> pre i mod 0;", []int{1, 2}, "0 trap"},
		{"", "o = 0 -> (pre i + 1) / (1 - 1);", []int{1, 2}, "0 trap"},
		{"", "o = 0 -> 1 / (pre i - pre i);", []int{1, 2}, "0 trap"},
		{"x: int", "x = 10 / pre i; o = 0 -> x;", []int{5, 2, 0, 1}, "0 2 5 trap"},
		{"x: int; y: int", "x = pre i; y = 10 / x; o = 0 -> y;", []int{5, 2, 0, 1}, "0 2 5 trap"},
		{"x: int; y: int", "o = 0 -> y; y = 10 / x; x = pre i;", []int{5, 2, 0, 1}, "0 2 5 trap"},
		{"x: int", "x = 10 / (pre i -> i); o = 0 -> x;", []int{5, 2, 1}, "0 5 10"},
		{"x: int", "x = 10 / (pre i fby i); o = 0 -> x;", []int{5, 2, 1}, "0 2 5"},
		{"x: int", "x = 10 / (if pre b then i else i); o = 0 -> x;", []int{0, 2, 1}, "0 5 10"},
		{"x: int", "x = 10 / (if b then pre i else i); o = 0 -> x;", []int{0, 2, 1}, "0 5 5"},
		{"x: bool", "x = 1 / pre i = 1; o = 0 -> if x then 1 else 2;", []int{1, 2, 0}, "0 1 2"},
		{"", "o = 1; assert true -> 10 / pre i > 0;", []int{5, 2, 0, 1}, "1 1 1 trap"},
		{"", "o = 1; check true -> 10 / pre i > 2;", []int{5, 2, 0, 1}, "1 1!0 1 trap"},
		// parts that are not late
		{"", "o = 0 -> pre i + 10 / i;", []int{0, 2}, "trap"},
		{"", "o = 0 -> pre i + 10 / i;", []int{2, 5}, "0 4"},
		{"", "o = 0 -> pre i / (10 / i);", []int{0, 2}, "trap"},
		{"x: int", "x = pre i + 10 / i; o = 1;", []int{0, 2}, "trap"},
		{"x: int", "x = pre (10 / i); o = 1;", []int{0, 2}, "trap"},
		{"x: int", "x = pre (10 / i); o = 1;", []int{5, 0}, "1 trap"},
		{"x: int", "x = pre i -> 10 / i; o = 1;", []int{0, 2}, "trap"},
		{"x: int", "x = pre i fby 10 / i; o = 1;", []int{0, 2}, "trap"},
		{"x: int", "x = if 1 / i = 1 then pre i else 1; o = 1;", []int{0, 2}, "trap"},
		{"", "o = 5 / (0 -> pre i);", []int{1, 2}, "trap"},
		{"", "o = 5 mod (0 fby i);", []int{1, 2}, "trap"},
		{"", "o = 5 / (1 -> pre i);", []int{2, 0, 9}, "5 2 trap"},
		{"", "o = 5 / (1 fby i);", []int{2, 0, 9}, "5 2 trap"},
	})
}

func TestP62Ticks(t *testing.T) {
	p := read(t, "node n(i: int; b: bool) returns (x: bool; y: int; z: bool); let z = not b; y = i + 1; x = b; assert i > 0; assert i < 9; check b; check i = 3; check y <> 6; tel", "n")
	l, err := Run(p, ins(3, 0, 9, 5), false, 0)
	want := []Tick{
		{Out: values(bit(1), whole(4), bit(0)), Assert: true, Checks: []bool{true, true, true}},
		{Out: values(bit(0), whole(1), bit(1)), Assert: false, Checks: []bool{false, false, true}},
		{Out: values(bit(1), whole(10), bit(0)), Assert: false, Checks: []bool{true, false, true}},
		{Out: values(bit(1), whole(6), bit(0)), Assert: true, Checks: []bool{true, false, false}},
	}
	if err != nil || !reflect.DeepEqual(l, want) {
		t.Errorf("%v, %v, want %v", l, err, want)
	}
}

// TestP62Out: in the order of Out, which need not be that of flows.
func TestP62Out(t *testing.T) {
	p := flat.Program{
		Out: []string{"c", "a"},
		L: []flat.Flow{
			{Name: "a", Kind: api.Int, E: tree.Expr{Op: "int", N: 1}},
			{Name: "b", Kind: api.Int, E: tree.Expr{Op: "int", N: 2}},
			{Name: "c", Kind: api.Bool, E: tree.Expr{Op: "true"}},
		},
	}
	l, err := Run(p, make([][]api.Value, 2), true, 0)
	one := Tick{Out: values(bit(1), whole(1)), Assert: true}
	if err != nil || !reflect.DeepEqual(l, []Tick{one, one}) {
		t.Errorf("%v, %v", l, err)
	}
}

// TestP62Trap: the instant that traps is the last one, and tells nothing else.
func TestP62Trap(t *testing.T) {
	l, err := Run(made(t, "", "o = 10 / i; assert b or not b; check true; check false;"), ins(5, 2, 0, 1, 0), false, 0)
	want := []Tick{
		{Out: values(whole(2)), Assert: true, Checks: []bool{true, false}},
		{Out: values(whole(5)), Assert: true, Checks: []bool{true, false}},
		{Trap: true},
	}
	if err != nil || len(l) != 3 || !reflect.DeepEqual(l[:2], want[:2]) {
		t.Fatalf("%v, %v, want %v", l, err, want)
	}
	if k := l[2]; !k.Trap || k.Assert || len(k.Out) > 0 || len(k.Checks) > 0 {
		t.Errorf("%v", k)
	}
}

// TestP62Nothing: programs and runs of nothing.
func TestP62Nothing(t *testing.T) {
	for _, in := range [][][]api.Value{nil, {}} {
		if l, err := Run(made(t, "", "o = 1 / 0;"), in, false, 0); len(l) > 0 || err != nil {
			t.Errorf("%v, %v", l, err)
		}
	}
	l, err := Run(flat.Program{}, [][]api.Value{nil, {}, nil}, false, 0)
	if err != nil || len(l) != 3 {
		t.Fatalf("%v, %v", l, err)
	}
	for _, k := range l {
		if !k.Assert || k.Trap || len(k.Out) > 0 || len(k.Checks) > 0 {
			t.Errorf("%v", k)
		}
	}
	only := flat.Program{In: []tree.Var{{Name: "i", Kind: api.Int}}, Checks: []tree.Expr{{Op: "=", L: []tree.Expr{{Op: "name", S: "i"}, {Op: "int", N: 3}}}}}
	if l, err := Run(only, [][]api.Value{{whole(3)}, {whole(4)}}, false, 0); err != nil || told(l) != " !0" {
		t.Errorf("%v, %v", l, err)
	}
}

// fails holds a run to its error; at -1: a bare one.
func fails(t *testing.T, p flat.Program, in [][]api.Value, nilInt, at int, want error) {
	t.Helper()
	l, err := Run(p, in, true, nilInt)
	var f *api.Fault
	switch {
	case len(l) > 0:
		t.Errorf("%v", l)
	case at < 0 && err != want:
		t.Errorf("%#v, want %v", err, want)
	case at >= 0 && (!errors.As(err, &f) || f.At != at || f.Err != want):
		t.Errorf("%#v, want %v at %d", err, want, at)
	}
}

// TestP62Order: errors of the program come ahead of all others, then bounds, then types.
func TestP62Order(t *testing.T) {
	tooMany, wrong := make([][]api.Value, api.MaxTicks+1), [][]api.Value{nil}
	tooBig := flat.Program{L: make([]flat.Flow, api.MaxFlat+1)}
	for i := range tooBig.L {
		tooBig.L[i] = flat.Flow{Name: strconv.Itoa(i), Kind: api.Bool, E: tree.Expr{Op: "true"}}
	}
	for _, c := range []struct {
		p   flat.Program
		at  int
		err error
	}{
		{flat.Program{Out: []string{"x"}}, -1, api.ErrShape},
		{flat.Program{L: []flat.Flow{{Name: "x", Kind: 3}}}, -1, api.ErrShape},
		{tooBig, -1, api.ErrBound},
		{flat.Program{L: []flat.Flow{{Name: "x", Kind: api.Int, E: tree.Expr{Op: "true"}}}}, -1, api.ErrType},
		{made(t, "x: int", "o = i; x = x + 1;"), 1, api.ErrCycle},
		{made(t, "", "o = pre i;"), 0, api.ErrFirst},
		{made(t, "x: int", "o = 1; x = pre pre i;"), 1, api.ErrFirst},
		{made(t, "", "o = 1; check pre b;"), -1, api.ErrFirst},
		{made(t, "", "o = 1; assert 1 / pre i = 1;"), -1, api.ErrFirst},
	} {
		for _, in := range [][][]api.Value{nil, ins(1), wrong, tooMany} {
			fails(t, c.p, in, 0, c.at, c.err)
			fails(t, c.p, in, 128, c.at, c.err)
		}
	}
	p := made(t, "", "o = i;")
	fails(t, p, tooMany, 0, -1, api.ErrBound)
	fails(t, p, wrong, 128, -1, api.ErrBound)
	fails(t, p, wrong, 127, 0, api.ErrType)
}

func TestP62Bound(t *testing.T) {
	p := made(t, "", "o = i;")
	most := slices.Repeat(ins(4), api.MaxTicks)
	for _, n := range []int{-128, -1, 0, 127} {
		if l, err := Run(p, most, false, n); len(l) != api.MaxTicks || err != nil {
			t.Errorf("%d: %d ticks, %v", n, len(l), err)
		}
	}
	for _, n := range []int{-129, 128, 256, -256, math.MaxInt, math.MinInt} {
		fails(t, p, nil, n, -1, api.ErrBound)
		fails(t, p, most, n, -1, api.ErrBound)
	}
	fails(t, p, append(slices.Clone(most), ins(4)...), 0, -1, api.ErrBound)
	// What traps early is not asked: it is how many instants are handed in that counts.
	fails(t, made(t, "", "o = 1 / 0;"), append(slices.Clone(most), ins(4)...), 0, -1, api.ErrBound)
}

func TestP62Type(t *testing.T) {
	i, b := whole(1), bit(1)
	p := made(t, "", "o = 10 / i;")
	for _, wrong := range [][]api.Value{
		nil, {}, {i}, {i, b, b}, {b, i}, {i, i}, {b, b}, {{}, {}},
		{i, bit(2)}, {i, bit(-1)}, {i, bit(math.MinInt)}, {whole(128), b}, {whole(-129), b}, {whole(math.MaxInt), b},
		{i, {Kind: 3, N: 1}}, {{Kind: 0, N: 1}, b},
	} {
		for at := range 3 {
			in := ins(1, 2, 3)
			in[at] = wrong
			fails(t, p, in, 0, at, api.ErrType)
			in[2] = nil
			fails(t, p, in, 0, at, api.ErrType)
		}
		// What is wrong behind a trap is wrong, too.
		fails(t, p, append(ins(0, 1), wrong), 0, 2, api.ErrType)
	}
	none := read(t, "node n() returns (o: int); let o = 1; tel", "n")
	fails(t, none, [][]api.Value{{}, nil, {i}}, 0, 2, api.ErrType)
}

// TestP64Beginning: a run of fewer instants is a beginning.
func TestP64Beginning(t *testing.T) {
	p := made(t, "x: int", "x = pre i; o = 5 -> pre o + 20 / x; assert i < 4; check true -> pre b;")
	in := ins(1, 2, 4, 5, 20, 0, 1, 2)
	whole := runs(t, p, in)
	if len(whole) != 7 || !whole[6].Trap {
		t.Fatalf("%v", whole)
	}
	for n := range in {
		if got := runs(t, p, in[:n]); len(got) != min(n, 7) || n > 0 && !reflect.DeepEqual(got, whole[:min(n, 7)]) {
			t.Errorf("%d: %v, want the beginning of %v", n, got, whole)
		}
	}
}

func TestP4OnlyRead(t *testing.T) {
	p := made(t, "x: int", "x = pre i; o = 5 -> pre o + 20 / x; assert i < 4; check true -> pre b; check b;")
	text, err := flat.Text(p)
	if err != nil {
		t.Fatal(err)
	}
	row := values(whole(3), bit(1), whole(99), bit(5)) // what lies behind the length is nobody's
	in := [][]api.Value{row[:2], row[:2], row[:2], nil}[:3]
	l, err := Run(p, in, false, 0)
	if err != nil || told(l) != "5 11 17" {
		t.Fatalf("%v, %v", l, err)
	}
	again, _ := Run(p, in, false, 0)
	for i := range l {
		l[i].Out[0].N, l[i].Checks[0] = 77, false
		_, _ = append(l[i].Out, whole(66)), append(l[i].Checks, false)
	}
	third, _ := Run(p, in, false, 0)
	if told(again) != "5 11 17" || !reflect.DeepEqual(third, again) {
		t.Errorf("%v, %v", again, third)
	}
	if after, err := flat.Text(p); after != text || err != nil {
		t.Errorf("%s, %v", after, err)
	}
	if !slices.Equal(row, values(whole(3), bit(1), whole(99), bit(5))) || in[:4][3] != nil {
		t.Errorf("%v", row)
	}
	// A later change of what was handed in does not show.
	in[0][0] = whole(1)
	p.L[0].E.Op = "neg"
	if told(again) != "5 11 17" {
		t.Errorf("%v", again)
	}
}

// TestP1Great: programs as big and as deep as there are, for as long as there is.
func TestP1Great(t *testing.T) {
	i := tree.Expr{Op: "name", S: "i"}
	op := func(op string, l ...tree.Expr) tree.Expr { return tree.Expr{Op: op, L: l} }
	deep, past := i, i
	for range api.MaxTerms - 1 {
		deep = op("neg", deep)
	}
	for range (api.MaxTerms - 1) / 3 {
		past = op("->", tree.Expr{Op: "int", N: 7}, op("pre", past))
	}
	in := make([][]api.Value, api.MaxTicks)
	for t := range in {
		in[t] = values(whole(t % 100))
	}
	head := []tree.Var{{Name: "i", Kind: api.Int}}
	for _, c := range []struct {
		e    tree.Expr
		want int
	}{{deep, -99}, {past, 7}} {
		p := flat.Program{In: head, Out: []string{"o"}, L: []flat.Flow{{Name: "o", Kind: api.Int, E: c.e}}}
		l, err := Run(p, in, false, 0)
		if err != nil || len(l) != api.MaxTicks || l[api.MaxTicks-1].Out[0] != whole(c.want) {
			t.Errorf("%d ticks, %v", len(l), err)
		}
	}
	// Each flow needs the one behind it.
	p := flat.Program{In: head, Out: []string{"0"}}
	for n := range api.MaxFlat {
		p.L = append(p.L, flat.Flow{Name: strconv.Itoa(n), Kind: api.Int, E: op("+", tree.Expr{Op: "name", S: strconv.Itoa(n + 1)}, tree.Expr{Op: "int", N: 1})})
	}
	p.L[api.MaxFlat-1].E = i
	l, err := Run(p, in, false, 0)
	if err != nil || len(l) != api.MaxTicks || l[5].Out[0] != whole(secondAround(5+api.MaxFlat-1)) {
		t.Errorf("%d ticks, %v", len(l), err)
	}
}
