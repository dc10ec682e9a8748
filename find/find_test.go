package find

import (
	"slices"
	"strconv"
	"strings"
	"testing"

	"lustrum/api"
	"lustrum/flat"
)

const (
	ib   = "i: int; b: bool) returns (o: int)"
	ibx  = ib + "; var x: int"
	ibxy = ib + "; var x: int; y: int"
	bc   = "b: bool; c: bool) returns (o: bool)"
	bcx  = bc + "; var x: bool"
)

// wanted of a check (-1: a trap): with how many instants it is wrong first; 0: never, or not within a depth.
type wanted struct {
	head, s string
	c, want int
}

// within holds a program to what is wanted at each depth around it, and well beyond.
func (w wanted) within(t *testing.T, most int) {
	t.Helper()
	p := made(t, w.head, w.s)
	for depth := range most + 1 {
		want := w.want
		if depth < want {
			want = 0
		}
		for _, effort := range []int{api.MaxEffort, api.MaxEffort - 1} {
			told(t, p, w.c, depth, effort, want)
		}
	}
}

func TestP150Checks(t *testing.T) {
	for _, w := range []wanted{
		{ib, "o = i; check o <> 5;", 0, 1},
		{ib, "o = i; check i = i;", 0, 0},
		{ib, "o = i; check true;", 0, 0},
		{ib, "o = i; check false;", 0, 1},
		{ib, "o = i; check i * i <> 3;", 0, 0},
		{ib, "o = i; check i * i <> 4;", 0, 1},
		{ib, "o = 0 -> pre o + 1; check o < 5;", 0, 6},
		{ib, "o = 0 -> pre o + i; check o < 5;", 0, 2},
		{ib, "o = 0 fby (if b then o + 1 else o - 1); check o <> 4; check o <> -3; check o < 6 or o > 8;", 0, 5},
		{ib, "o = 0 fby (if b then o + 1 else o - 1); check o <> 4; check o <> -3; check o < 6 or o > 8;", 1, 4},
		{ib, "o = 0 fby (if b then o + 1 else o - 1); check o <> 4; check o <> -3; check o < 6 or o > 8;", 2, 7},
		{ib, "o = 0 -> if b and pre b then pre o + 1 else 0; check o < 3;", 0, 4},
		{ibxy, "x = 1 fby y; y = 1 fby x + y; o = x; check x <> 21;", 0, 8},
		{ib, "o = -127 - 1 -> pre o - 1; check o < 127;", 0, 2},
		{ib, "o = 0; check true -> i > pre i - 1;", 0, 2},
		{ib, "o = 0; check true -> pre i <> i + 1 -> true;", 0, 0},
		// the first instant is one of its own
		{ib, "o = 1 -> 2; check o = 2;", 0, 1},
		{ib, "o = 1 -> 2; check o = 1;", 0, 2},
		{ib, "o = 1 fby 2 fby 3 fby 4; check o < 4;", 0, 4},
		{ib, "o = 1 fby 2 fby 3 fby 4; check o <> 2;", 0, 2},
		// of bools
		{bc, "o = b and c; check not o;", 0, 1},
		{bc, "o = false fby b; check not (o and c);", 0, 2},
		{bcx, "x = false fby (x or b and not x); o = x; check not o;", 0, 2},
		{bcx, "x = true fby o; o = true fby b; check o or x or c;", 0, 3},
		{bc, "o = false -> b = pre c; check o => b or c;", 0, 2},
		{bc, "o = false fby not o; check not o;", 0, 2},
		{bc, "o = b xor b; check not o;", 0, 0},
		{bc, "o = b; check b or not b;", 0, 0},
	} {
		w.within(t, w.want+3)
	}
}

func TestP150Traps(t *testing.T) {
	for _, w := range []wanted{
		{ib, "o = i / 3;", -1, 0},
		{ib, "o = 1 / 0;", -1, 1},
		{ib, "o = i / i;", -1, 1},
		{ib, "o = 7 mod (i - 3);", -1, 1},
		{ib, "o = i / (2 * i + 1);", -1, 0},
		{ib, "o = 10 / (3 -> pre o - i * i);", -1, 3},
		{ibx, "x = 4 fby x - 1; o = 1 / x;", -1, 5},
		{bc, "o = b;", -1, 0},
		{"b: bool) returns (o: bool)", "o = 1 / (3 fby (if b then 2 else 1)) = 7;", -1, 0},
		// whatever of it is used
		{ibx, "x = 1 / i; o = 1;", -1, 1},
		{ib, "o = if i = 0 then 1 else 1 / i;", -1, 1},
		{ib, "o = 1; check i / i = 1;", -1, 1},
		{ib, "o = 1; assert i mod i = 0;", -1, 1},
		{ib, "o = 1 -> 2 / i;", -1, 1},
		{ib, "o = 1 fby 2 / i;", -1, 1},
		// what is late does not trap at the first instant
		{ibx, "x = 8 / pre i; o = 1 -> x;", -1, 2},
		{ibx, "x = 8 / pre (1 fby i); o = 1 -> x;", -1, 3},
		{ibx, "x = pre i + 8 / i; o = 1;", -1, 1},
	} {
		w.within(t, w.want+3)
	}
}

// TestP150TrapsAndChecks: where it traps no check is wrong, nor is one behind it.
func TestP150TrapsAndChecks(t *testing.T) {
	for _, w := range []wanted{
		{ib, "o = 1 / i; check i <> 0;", 0, 0},
		{ib, "o = 1 / i; check i <> 1;", 0, 1},
		{ib, "o = 1 / 0; check false;", 0, 0},
		{ib, "o = 1 / i; check false;", 0, 1},
		{ibx, "x = 3 fby x - 1; o = 1 / x; check x > 0;", 0, 0},
		{ibx, "x = 3 fby x - 1; o = 1 / x; check x > 1;", 0, 3},
		{ibx, "x = 3 fby x - 1; o = 1 / x; check x > -1;", 0, 0},
		{ibx, "x = 3 fby (if b then x - 1 else x - 2); o = 1 / (x - 1); check x > 0;", 0, 3},
		{ibx, "x = 3 fby (if b then x - 1 else x - 2); o = 1 / (x - 1) / (x - 2); check x > 0;", 0, 0},
		{ibx, "x = 3 fby (if b then x - 1 else x - 2); o = 1 / x; check x > 0;", 0, 3},
		// a check that fails ahead is nothing to a trap, nor to another check
		{ibx, "x = 3 fby x - 1; o = 1 / x; check false; check x > 1;", -1, 4},
		{ibx, "x = 3 fby x - 1; o = 1 / x; check false; check x > 1;", 1, 3},
	} {
		w.within(t, w.want+3)
	}
}

// TestP150Asserts: of a check they hold at all instants, of a trap at all but the last one.
func TestP150Asserts(t *testing.T) {
	for _, w := range []wanted{
		{ib, "o = i; assert i > 0; check i > -1;", 0, 0},
		{ib, "o = i; assert i > 0; check i > 1;", 0, 1},
		{ib, "o = i; assert false; check false;", 0, 0},
		{ib, "o = i; assert true -> false; check true -> false;", 0, 0},
		{ib, "o = i; assert true fby true fby false; check true -> false;", 0, 2},
		{ib, "o = 0 fby o + i; assert i = 1 or i = 2; check o < 7;", 0, 5},
		{ib, "o = 0 fby o + i; assert i = 1; assert b; check o < 7 or not b;", 0, 8},
		{ib, "o = 0 fby o + i; assert i = 1; assert o < 4; check o < 3;", 0, 4},
		{ib, "o = 0 fby o + i; assert i = 1; assert o < 3; check o < 3;", 0, 0},
		{ib, "o = 0 -> pre i; assert true -> i = pre i + 3; check o <> 9 or i > 12;", 0, 2},
		{ib, "o = 0 -> pre i; assert true -> i = pre i + 3; check o <> 9 or i > 11;", 0, 0},
		{ib, "o = 0 -> pre i; assert i = 3 -> i = pre i + 3; check o <> 9;", 0, 4},
		{ib, "o = 10 / i; assert i > 0;", -1, 1},
		{ib, "o = 10 / i; assert false;", -1, 1},
		{ib, "o = 10 / (1 fby i); assert i > 0;", -1, 0},
		{ib, "o = 10 / (1 fby i); assert b;", -1, 2},
		{ib, "o = 10 / (1 fby i); assert false;", -1, 0},
		{ib, "o = 10 / (1 fby i); assert true -> false;", -1, 2},
		{ib, "o = 10 / (1 fby 1 fby i); assert true -> false;", -1, 0},
		{ib, "o = 10 / i; assert 1 / i > 0; check false;", -1, 1},
		{bc, "o = true fby o and b; assert b; check o;", 0, 0},
		{bc, "o = true fby o and b; assert b or c; check o or c;", 0, 2},
		{bc, "o = true fby o and b; assert b or c; check o or c or b;", 0, 0},
		{bc, "o = true fby o and b; assert b or c; check o or not c;", 0, 2},
		{bc, "o = b; assert false; check false;", 0, 0},
	} {
		w.within(t, w.want+3)
	}
}

// TestP150Inputs: in their order, each of its type.
func TestP150Inputs(t *testing.T) {
	const head = "a: bool; i: int; b: bool; j: int) returns (o: int)"
	p := made(t, head, "o = 0 -> pre j - pre i; check o <> 19; assert a and not b; assert i = -100 -> i = 7; assert j = 127 -> j = 26;")
	x := told(t, p, 0, 9, 1000, 3)
	want := [][]api.Value{
		values(bit(1), whole(-100), bit(0), whole(127)),
		values(bit(1), whole(7), bit(0), whole(26)),
		values(bit(1), whole(7), bit(0), whole(26)),
	}
	if !slices.EqualFunc(x.Trace, want, func(a, b []api.Value) bool { return slices.Equal(a, b) }) {
		t.Errorf("%v", x)
	}
	none := made(t, ") returns (o: int)", "o = 0 fby o + 1; check o < 4;")
	if x := told(t, none, 0, 7, 0, 5); len(x.Trace[0])+len(x.Trace[4]) > 0 {
		t.Errorf("%v", x)
	}
	// What nothing hangs on is there, too.
	p = made(t, head, "o = 0 fby o + 1; check o < 2 or not b;")
	x = told(t, p, 0, 7, 0, 3)
	for _, in := range x.Trace {
		if len(in) != 4 || in[1].Kind != api.Int || in[3].Kind != api.Int {
			t.Errorf("%v", x)
		}
	}
}

// TestP150Depth: up to as many instants as there can be.
func TestP150Depth(t *testing.T) {
	for _, n := range []int{1, 12, 13, 38, 39, 40, 41, 60} {
		want := n
		if n > api.MaxDepth {
			want = 0
		}
		told(t, made(t, ib, "o = 1 fby (if b then o + 1 else o); check o < "+strconv.Itoa(n)+";"), 0, api.MaxDepth, api.MaxEffort, want)
		told(t, made(t, ib, "o = 10 / ("+strconv.Itoa(n-1)+" fby (if b then o * 0 else 0) + "+strconv.Itoa(n-2)+" fby 1);"), -1, api.MaxDepth, api.MaxEffort, wantTrap(n))
	}
	// Of bools: five of them count up to 31.
	p := made(t, "b: bool) returns (p: bool; q: bool; r: bool; s: bool; u: bool)", "p = false fby (p xor b); q = false fby (q xor (b and p)); r = false fby (r xor (b and p and q)); s = false fby (s xor (b and p and q and r)); u = false fby (u xor (b and p and q and r and s)); check not (p and q and r and s and u);")
	for _, depth := range []int{0, 1, 12, 31, 32, 33, 40} {
		want := 32
		if depth < want {
			want = 0
		}
		told(t, p, 0, depth, api.MaxEffort, want)
		told(t, p, 0, depth, api.MaxEffort-1, want)
	}
}

func wantTrap(n int) int {
	switch n {
	case 1:
		return 1
	case 2:
		return 2
	}
	return 0
}

// TestP150Tired: with little effort nothing is told of what is hard, nor of what comes behind it.
func TestP150Tired(t *testing.T) {
	const s = "x = i * j; y = j * i; o = 0 -> pre o + 1; check x = y; check x = y and o < 2; check o < 2; check x <> 119 or i < 2 or j < 2;"
	p := made(t, "i: int; j: int) returns (o: int); var x: int; y: int", s)
	for _, c := range []int{0, 1} {
		for _, depth := range []int{1, 3, api.MaxDepth} {
			x, err := Trace(p, c, depth, 20)
			if x.Kind != "tired" || len(x.Trace) > 0 || err != nil {
				t.Errorf("%d: %v, %v", c, x, err)
			}
		}
		told(t, p, c, 0, 0, 0)
	}
	told(t, p, 2, 5, 0, 3)
	told(t, p, 3, 1, api.MaxEffort, 1)
	told(t, p, 0, 1, api.MaxEffort, 0)
	told(t, p, 1, 5, api.MaxEffort, 3)
}

// few tells of a program whether no search may tire of it.
func few(t *testing.T, p flat.Program) bool {
	t.Helper()
	return newSearch(p, -1, 0).isFew()
}

func TestP150Few(t *testing.T) {
	memories := func(n int) flat.Program {
		return made(t, bc, "o = "+strings.Repeat("true fby (", n)+"b"+strings.Repeat(")", n)+";")
	}
	parts := func(n int) flat.Program {
		return made(t, "b: bool) returns (p: bool; q: bool; r: bool)", "p = b"+strings.Repeat(" and b", (n-8)/2)+"; q = "+strings.Repeat("not ", 4-n%2)+"b; r = true and (b or false)"+strings.Repeat(" ", n%2)+";")
	}
	for n := range 10 {
		if p := memories(n); few(t, p) != (n <= 6) {
			t.Errorf("%d memories: %v", n, few(t, p))
		}
	}
	for n := 190; n < 210; n++ {
		p := parts(n)
		got := len(newSearch(p, -1, 0).Parts) - 1
		if few(t, p) != (got <= 200) {
			t.Errorf("%d parts: %v", got, few(t, p))
		}
	}
	for _, head := range []string{"b: bool; i: int) returns (o: bool)", "b: bool) returns (o: bool; i: int)"} {
		s := "o = b;"
		if strings.HasSuffix(head, "int)") {
			s += "i = 1;"
		}
		if few(t, made(t, head, s)) {
			t.Errorf("%s has ints", head)
		}
	}
	if few(t, made(t, bc, "o = 1 = 2;")) || !few(t, made(t, bc, "o = b;")) || !few(t, flat.Program{}) {
		t.Error("ints")
	}
}

// TestP150NeverTired: of what a search tires of, and what must be told all the same.
func TestP150NeverTired(t *testing.T) {
	told(t, parities(t, 3, 27), 0, 12, api.MaxEffort, 0)
	told(t, parities(t, 6, 13), 0, 12, api.MaxEffort, 0)
}
