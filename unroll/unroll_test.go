package unroll

import (
	"math/rand"
	"slices"
	"strconv"
	"strings"
	"testing"

	"lustrum/api"
	"lustrum/flat"
	"lustrum/flow"
	"lustrum/graph"
	"lustrum/sample"
	"lustrum/step"
	"lustrum/trans"
	"lustrum/tree"
	"lustrum/word"
)

func drawn(r *rand.Rand, n int) []byte {
	l := make([]byte, n)
	r.Read(l)
	return l
}

// system of a program of a head, up to what is declared, and of equations.
func system(t testing.TB, head, s string) trans.System {
	t.Helper()
	l, err := tree.Read("node n(" + head + "; let " + s + " tel")
	if err != nil {
		t.Fatal(s, err)
	}
	p, err := flat.Make(l, "n")
	if err != nil {
		t.Fatal(s, err)
	}
	return systemOf(t, p)
}

func systemOf(t testing.TB, p flat.Program) trans.System {
	t.Helper()
	x, err := trans.Make(p)
	if err != nil {
		t.Fatal(p, err)
	}
	return x
}

func rolled(t testing.TB, s trans.System, asked []api.Lit) *Roll {
	t.Helper()
	r, err := New(s, asked)
	if err != nil || r == nil || r.Graph.Gates() != 1 || len(r.Ins)+len(r.States) > 0 || r.Again() {
		t.Fatal(err)
	}
	return r
}

func added(t testing.TB, r *Roll) []api.Lit {
	t.Helper()
	l, err := r.Add()
	if err != nil {
		t.Fatal(err)
	}
	return l
}

func bitsOf(t testing.TB, l []api.Value) []bool {
	t.Helper()
	var out []bool
	for _, v := range l {
		bits, err := word.Bits(v)
		if err != nil {
			t.Fatal(err)
		}
		out = append(out, bits...)
	}
	return out
}

// run of a roll, held against a machine: at each instant up to one that traps, what is asked for is as the machine tells, and so is the state, where it is laid out.
type run struct {
	testing.TB
	*Roll
	s     trans.System
	m     *step.Machine
	asked [][]api.Lit
	kept  [][]bool // states
	ticks []flow.Tick
}

func (x *run) add(in []api.Value) {
	x.Helper()
	x.kept = append(x.kept, bitsOf(x, x.m.State()))
	k, err := x.m.Tick(in)
	if err != nil {
		x.Fatal(err)
	}
	x.ticks = append(x.ticks, k)
	x.asked = append(x.asked, added(x, x.Roll))
}

// inputs of the graph: those that are laid out, in the order in which they came.
func (x *run) inputs(in [][]api.Value) []bool {
	x.Helper()
	var out []bool
	for at, l := range x.Ins {
		for i, is := range bitsOf(x, in[at]) {
			if l[i] > 0 {
				out = append(out, is)
			}
		}
	}
	return out
}

// wanted of an instant: trap, assert, checks, outputs.
func (x *run) wanted(k flow.Tick) []bool {
	x.Helper()
	return slices.Concat([]bool{k.Trap, k.Assert}, k.Checks, bitsOf(x, k.Out))
}

func (x *run) agree(in [][]api.Value) {
	x.Helper()
	bits := x.inputs(in)
	for at, k := range x.ticks {
		got, err := x.Graph.Eval(bits, x.asked[at])
		if err != nil || got[0] != k.Trap {
			x.Fatal(at, got, err)
		}
		if k.Trap {
			return
		}
		if want := x.wanted(k); !slices.Equal(got, want) {
			x.Fatalf("%d: %v, want %v", at, got, want)
		}
		state, err := x.Graph.Eval(bits, x.States[at])
		for i, is := range state {
			if is != x.kept[at][i] && x.bits[i] || err != nil {
				x.Fatalf("%d: state %v, want %v", at, state, x.kept[at])
			}
		}
	}
}

func TestInstants(t *testing.T) {
	r := rand.New(rand.NewSource(15))
	traps, ticks, memories, missing := 0, 0, 0, 0
	for range 1000 {
		p := sample.Program(drawn(r, 600))
		s := systemOf(t, p)
		m, err := step.New(p, false, 0)
		if err != nil {
			t.Fatal(err)
		}
		asked := slices.Concat([]api.Lit{s.Trap, s.Assert}, s.Checks, s.Out)
		x := &run{TB: t, Roll: rolled(t, s, asked), s: s, m: m}
		in := sample.Inputs(drawn(r, 100), p, 1+r.Intn(6))
		for at, now := range in {
			x.add(now)
			if len(x.Ins) != at+1 || len(x.States) != at+1 {
				t.Fatal(len(x.Ins), len(x.States))
			}
			x.agree(in)
		}
		if x.ticks[len(x.ticks)-1].Trap {
			traps++
		}
		ticks += len(x.ticks)
		memories += len(s.Mem) - 1
		missing += len(x.inputs(in)) - x.Graph.Inputs()
		for _, l := range x.Ins {
			if slices.Contains(l, 0) {
				missing++
			}
		}
	}
	if traps < 100 || ticks < 2000 || memories < 5000 || missing < 200 {
		t.Errorf("only %d, %d, %d, %d", traps, ticks, memories, missing)
	}
}

// TestLeastGates: what nothing hangs on is not laid out; nor is it behind the last instant.
func TestLeastGates(t *testing.T) {
	s := system(t, "i: int; j: int; b: bool; c: bool) returns (o: int; p: bool); var x: int", "o = 1 fby o * j; x = 1 fby x * i / 3; p = c fby b; check x > 5; check p; check i > 4;")
	roll := rolled(t, s, s.Checks[1:2])
	for n := range 5 {
		l := added(t, roll)
		if roll.Graph.Gates() != 1+2*(n+1) || len(l) != 1 {
			t.Errorf("%d gates", roll.Graph.Gates())
		}
		// p is c at first, then what b was.
		want := []api.Lit{roll.Ins[n][17]}
		if n > 0 {
			want = []api.Lit{roll.Ins[n-1][16]}
		}
		if !slices.Equal(l, want) || slices.ContainsFunc(roll.Ins[n][:16], func(x api.Lit) bool { return x > 0 }) {
			t.Errorf("%v, want %v of %v", l, want, roll.Ins)
		}
	}
	roll = rolled(t, s, s.Checks[2:])
	added(t, roll)
	if roll.Graph.Inputs() != 8 || slices.Contains(roll.Ins[0][:8], 0) {
		t.Errorf("%v", roll.Ins)
	}
	roll = rolled(t, s, s.Checks[:1])
	if l := added(t, roll); l[0] != 0 || roll.Graph.Gates() > 9 {
		t.Errorf("%v, %d gates", l, roll.Graph.Gates())
	}
	none := rolled(t, s, nil)
	for range 3 {
		if l := added(t, none); len(l) > 0 || none.Graph.Gates() != 1 {
			t.Errorf("%v, %d gates", l, none.Graph.Gates())
		}
	}
}

func TestAgain(t *testing.T) {
	for _, c := range []struct {
		s    string
		want int // instants, up to the first one of which nothing is new; 0: never
	}{
		{"o = i; check i > 3;", 2},
		{"o = i -> i + 1; check o > 3;", 3},
		{"o = 1 fby i; check o > 3;", 0},
		{"o = 1 fby 2 fby 3; check o > 2;", 4},
		{"o = 1 fby 2 fby 3; check o > 3;", 3}, // of which 2 and 3 are one thing
		{"o = 0 fby 1 - o; check o < 5;", 4},
		{"o = 0 fby o; check o < i;", 3},
		{"o = 0 fby o + 1; check i < 5;", 2},
		{"o = 0 fby o + 1; check o < 5;", 0},
		{"o = i; check true;", 2},
	} {
		s := system(t, "i: int; b: bool) returns (o: int)", c.s)
		roll := rolled(t, s, s.Checks)
		for n := 1; n < 12; n++ {
			added(t, roll)
			if roll.Again() != (c.want > 0 && n >= c.want) {
				t.Errorf("%s: %v at %d", c.s, roll.Again(), n)
			}
		}
	}
}

func TestShape(t *testing.T) {
	s := system(t, "i: int; b: bool) returns (o: int)", "o = 1 fby o * i; check o > 3;")
	more := api.Lit(2 * s.G.Gates())
	for _, asked := range [][]api.Lit{{more}, {1, -1}, {s.Trap, more + 7}} {
		if r, err := New(s, asked); r != nil || err != api.ErrShape {
			t.Errorf("%v: %v", asked, err)
		}
	}
	for n, spoil := range []func(*trans.System){
		func(x *trans.System) { x.Mem = x.Mem[1:] },
		func(x *trans.System) { x.Next = nil },
		func(x *trans.System) { x.Init = append(slices.Clone(x.Init), true) },
		func(x *trans.System) { x.Mem = append(slices.Clone(x.Mem[1:]), more) },
		func(x *trans.System) { x.Next = append(slices.Clone(x.Next[1:]), -2) },
		func(x *trans.System) { x.In = append(slices.Clone(x.In), more+1) },
	} {
		x := s
		spoil(&x)
		if r, err := New(x, s.Checks); r != nil || err != api.ErrShape {
			t.Errorf("%d: %v", n, err)
		}
	}
	if r, err := New(trans.System{G: new(graph.Graph)}, []api.Lit{0, 1}); err != nil {
		t.Error(err)
	} else if l := added(t, r); !slices.Equal(l, []api.Lit{0, 1}) {
		t.Errorf("%v", l)
	}
}

func TestBound(t *testing.T) {
	s := "o = 1 fby o"
	for n := range 12 {
		s += "; x" + strconv.Itoa(n) + " = o"
		for k := range 3 {
			s += " * (i + " + strconv.Itoa(3*n+k) + ")"
		}
		s = strings.Replace(s, "fby o", "fby (o + x"+strconv.Itoa(n)+")", 1)
	}
	own := "x0: int"
	for n := 1; n < 12; n++ {
		own += "; x" + strconv.Itoa(n) + ": int"
	}
	x := system(t, "i: int) returns (o: int); var "+own, s+"; check o > 3;")
	roll := rolled(t, x, x.Checks)
	for n := range 1000 {
		l, err := roll.Add()
		if err == nil {
			continue
		}
		if len(l) > 0 || err != api.ErrBound || n < 2 || roll.Graph.Gates() != api.MaxGates {
			t.Errorf("%d: %v, %v", n, l, err)
		}
		return
	}
	t.Error("there is no end")
}
