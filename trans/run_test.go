package trans

import (
	"reflect"
	"slices"
	"strconv"
	"testing"

	"lustrum/api"
	"lustrum/flat"
	"lustrum/flow"
	"lustrum/sample"
	"lustrum/tree"
)

// ran by gates, and by flow.Run, which must tell the same.
func ran(t testing.TB, p flat.Program, in [][]api.Value) []flow.Tick {
	t.Helper()
	l, err := Run(p, in)
	want, wantErr := flow.Run(p, in, false, 0)
	if !alike(l, want) || err != nil || wantErr != nil {
		t.Fatalf("%s%v: %v, %v, want %v, %v", text(t, p), in, l, err, want, wantErr)
	}
	return l
}

// TestP141Ticks: by hand.
func TestP141Ticks(t *testing.T) {
	p := read(t, "node n(i: int; b: bool) returns (x: bool; y: int; z: bool); let z = not b; y = 100 / i -> pre y + 1; x = b; assert i > 0; assert i < 9; check b; check i = 3; check y <> 34; tel", "n")
	want := []flow.Tick{
		{Out: values(bit(1), whole(33), bit(0)), Assert: true, Checks: []bool{true, true, true}},
		{Out: values(bit(0), whole(34), bit(1)), Assert: false, Checks: []bool{false, false, false}},
		{Out: values(bit(1), whole(35), bit(0)), Assert: false, Checks: []bool{true, false, true}},
		{Trap: true},
	}
	l, err := Run(p, ins(3, -2, 9, 0, 5))
	if err != nil || !reflect.DeepEqual(l[:3], want[:3]) || !alike(l, want) {
		t.Errorf("%v, %v, want %v", l, err, want)
	}
	if k := l[3]; len(k.Out)+len(k.Checks) > 0 || k.Assert {
		t.Errorf("%v", k)
	}
}

func TestP141Programs(t *testing.T) {
	in := ins(3, -2, 5, 4, 127, -128, 0, 9)
	for _, c := range []struct{ own, s string }{
		{"", "o = i + 1;"},
		{"", "o = 5 -> pre i * i - pre o;"},
		{"", "o = if b then i mod 3 else i / (i - 40);"},
		{"", "o = 0 -> 10 / pre i;"},
		{"", "o = 7 fby o - 1; check o > 5; assert not b or i > -1;"},
		{"", "o = 0 -> pre (if b then 1 else 2) fby i; check true -> pre b => b;"},
		{"", "o = i mod i;"},
		{"", "o = 1 fby 2 fby 3 fby o + i;"},
		{"", "o = 1 -> pre (2 -> pre (3 -> pre (o * i)));"},
		{"x: int; y: int", "o = x + 1; x = y * 2; y = 0 -> pre o;"},
		{"x: int; y: int", "x = 0 -> pre y; y = 1 -> pre x + pre y; o = x;"},
		{"x: int; y: int", "o = 0 -> y; y = 10 / x; x = pre i;"},
		{"x: int", "x = 10 / (if pre b then i else i); o = 0 -> x;"},
		{"x: bool", "x = pre i = pre i; o = 3 -> if x then 1 else 0;"},
		{"x: int", "x = pre i -> i; o = 5 -> x;"},
		{"x: int", "x = pre i fby i; o = 5 -> x;"},
		{"", "o = -127 - 1; check o = -o; check o < -127; check i < o;"},
	} {
		p := made(t, c.own, c.s)
		for n := range len(in) + 1 {
			ran(t, p, in[:n])
		}
	}
}

// TestP141Calls: of a program with calls, made flat.
func TestP141Calls(t *testing.T) {
	p := read(t, "node sum(u: int) returns (v: int); let v = u -> pre v + u; tel "+
		"node two(u: int) returns (a: int; z: bool); let a = sum(u); z = (0 -> pre a) < a; check u <> 3; assert u > -5; tel "+
		"node m(i: int) returns (o: int; p: bool; q: int); let (o, p) = two(i); q = sum(sum(i)) - o; tel", "m")
	l := ran(t, p, [][]api.Value{{whole(1)}, {whole(2)}, {whole(3)}, {whole(-6)}, {whole(4)}})
	if !slices.Equal(l[4].Out, values(whole(4), bit(1), whole(10))) || l[3].Assert || l[2].Checks[0] {
		t.Errorf("%v", l)
	}
}

func TestP141Nothing(t *testing.T) {
	for _, in := range [][][]api.Value{nil, {}} {
		if l, err := Run(made(t, "", "o = 1 / 0;"), in); len(l) > 0 || err != nil {
			t.Errorf("%v, %v", l, err)
		}
	}
	if l := ran(t, flat.Program{}, [][]api.Value{nil, {}, nil}); len(l) != 3 || !l[2].Assert {
		t.Errorf("%v", l)
	}
	only := flat.Program{In: []tree.Var{{Name: "i", Kind: api.Int}}, Checks: []tree.Expr{op("=", name("i"), number(3))}}
	ran(t, only, [][]api.Value{{whole(3)}, {whole(4)}})
}

// TestP1Great: programs as big and as deep as there are, for as long as there is.
func TestP1Great(t *testing.T) {
	deep, past := name("i"), name("i")
	for range api.MaxTerms - 1 {
		deep = op("neg", deep)
	}
	for range (api.MaxTerms - 1) / 3 {
		past = op("->", number(7), op("pre", past))
	}
	in := make([][]api.Value, api.MaxTicks)
	for t := range in {
		in[t] = values(whole(t % 100))
	}
	head := []tree.Var{{Name: "i", Kind: api.Int}}
	for _, e := range []tree.Expr{deep, past} {
		ran(t, flat.Program{In: head, Out: []string{"o"}, L: []flat.Flow{{Name: "o", Kind: api.Int, E: e}}}, in)
	}
	// Each flow needs the one behind it.
	p := flat.Program{In: head, Out: []string{"0"}}
	for n := range api.MaxFlat {
		p.L = append(p.L, flat.Flow{Name: strconv.Itoa(n), Kind: api.Int, E: op("+", name(strconv.Itoa(n+1)), number(1))})
	}
	p.L[api.MaxFlat-1].E = name("i")
	ran(t, p, in)
	// As many gates as there can be, more or less.
	p = sample.Divisions(200)
	row := make([]api.Value, api.MaxParts)
	for i := range row {
		row[i] = whole(i - 100)
	}
	ran(t, p, slices.Repeat([][]api.Value{row}, api.MaxTicks))
}
