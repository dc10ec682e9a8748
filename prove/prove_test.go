package prove

import (
	"strconv"
	"testing"

	"lustrum/api"
	"lustrum/flat"
)

const (
	ib   = "i: int; b: bool) returns (o: int)"
	ibx  = ib + "; var x: int"
	ibxy = ib + "; var x: int; y: int"
	bc   = "b: bool; c: bool) returns (o: bool)"
	bcx  = bc + "; var x: bool"
	bcxy = bc + "; var x: bool; y: bool"
)

// wanted of a check (-1: a trap): the least number that proves it, or with how many instants it is wrong first.
type wanted struct {
	head, s          string
	c, proved, wrong int
}

// around holds a program to what is wanted, with each number around it.
func (w wanted) around(t *testing.T) {
	t.Helper()
	p := made(t, w.head, w.s)
	for k := 1; k <= max(w.proved, w.wrong)+3; k++ {
		base, step := formulas(t, p, w.c, k)
		if got := holds(t, base); got != (w.wrong > 0 && k >= w.wrong) {
			t.Errorf("%s BASE(%d, %d): %v", w.s, w.c, k, got)
		}
		// The shortest path to what is wrong is one of states that are unlike, and each end of it is one, too.
		if got := holds(t, step); w.proved > 0 && got != (k < w.proved) || k < w.wrong && !got {
			t.Errorf("%s STEP(%d, %d): %v", w.s, w.c, k, got)
		}
		want := w.proved
		if k < want {
			want = 0
		}
		proved(t, p, w.c, k, api.MaxEffort, want)
	}
}

func TestP160Checks(t *testing.T) {
	for _, w := range []wanted{
		{ib, "o = i; check true;", 0, 1, 0},
		{ib, "o = i; check i = i;", 0, 1, 0},
		{ib, "o = i; check i * i <> 3;", 0, 1, 0},
		{ib, "o = i; check i * i <> 4;", 0, 0, 1},
		{ib, "o = i; check false;", 0, 0, 1},
		{ib, "o = 0 -> if b then 1 else pre o; check o < 2;", 0, 1, 0},
		{ib, "o = 0 -> if b then 1 else pre o; check o < 1;", 0, 0, 2},
		{ib, "o = 0 -> pre o + 1; check o < 5;", 0, 0, 6},
		{ib, "o = 0 -> pre o + i; check o < 5;", 0, 0, 2},
		{ib, "o = i; check true -> i <> 77 or pre i > 5;", 0, 0, 2},
		{ib, "o = i; check i > 4; check true; check i > 3 or i < 4;", 1, 1, 0},
		{ib, "o = i; check i > 4; check true; check i > 3 or i < 4;", 2, 1, 0},
		{ib, "o = i; check i > 4; check true; check i > 3 or i < 4;", 0, 0, 1},
		// from 11 up to what is wrong there is one way, to which nothing else leads
		{ib, "o = 0 fby (if o = 10 then 0 else o + 1); check o <> 30;", 0, 20, 0},
		{ib, "o = 0 fby (if o = 10 then 0 else o + 1); check o <> 12;", 0, 2, 0},
		{ib, "o = 0 fby (if o = 10 then 0 else o + 1); check o <> 11;", 0, 1, 0},
		{ib, "o = 0 fby (if o = 10 then 0 else o + 1); check o <> 10;", 0, 0, 11},
		{ib, "o = 0 fby (if o = 10 then 0 else if b then o + 1 else o); check o <> 15;", 0, 5, 0},
		{ib, "o = 0 fby (if o = 10 then 0 else if b then o + 1 else o); check o < 11;", 0, 1, 0},
		// what leads to it is wrong, too
		{ib, "o = 0 fby (if o = 10 then 0 else o + 1); check o < 20;", 0, 10, 0},
		{ib, "o = 1 fby o; check o > 0;", 0, 1, 0},
		{ibxy, "o = 1 fby x; x = 2 fby y; y = 3 fby o; check o <> x;", 0, 3, 0},
		{ibxy, "o = 1 fby x; x = 2 fby y; y = 3 fby o; check o + x + y = 6;", 0, 1, 0},
		{ibxy, "o = 1 fby x; x = 2 fby y; y = 3 fby o; check o <> 3;", 0, 0, 3},
		{bcx, "x = false -> pre (if b then false else true); o = true -> pre (not x); check o;", 0, 0, 3},
		{bcx, "x = true fby o; o = true fby (x or c); check o;", 0, 2, 0},
		{bcxy, "x = true fby o; y = true fby x; o = true fby (y or c); check o;", 0, 3, 0},
		{"b: bool) returns (o: bool)", "o = b; check b or not b;", 0, 1, 0},
		{") returns (o: bool)", "o = true; check o;", 0, 1, 0},
		{") returns (o: bool)", "o = true fby not o; check o;", 0, 0, 2},
	} {
		w.around(t)
	}
}

// TestP160Paths: they come from the beginning, too, and the state behind the last instant is none of theirs.
func TestP160Paths(t *testing.T) {
	for _, w := range []wanted{
		// an instant at the beginning alone leads there
		{bcx, "x = true -> false; o = false -> pre x; check not o;", 0, 0, 2},
		{bcx, "x = true -> false; o = false -> pre x; check o => x;", 0, 0, 2},
		{bcx, "x = true -> false; o = false -> pre x; check true -> false;", 0, 0, 2},
		{bcxy, "x = true -> false; y = false -> pre x; o = false -> pre y; check not o;", 0, 0, 3},
		{bcx, "x = true -> false; o = b -> pre x; check true -> not o or b;", 0, 0, 2},
		{bcx, "x = true -> false; o = b -> pre x; check o or not o;", 0, 1, 0},
		// behind what is wrong is a state that was there
		{bcx, "x = false fby not x; o = x; check true -> x or not b;", 0, 0, 3},
		{bcx, "x = false fby not x; o = x; check true -> not x or not b;", 0, 0, 2},
		{bc, "o = b; check true -> b;", 0, 0, 2},
		// no path is long enough
		{bcx, "x = false fby x; o = x; check not x;", 0, 1, 0},
		{bcx, "x = false fby x; o = x; check not (x and b);", 0, 1, 0},
		{bcx, "x = false fby x; o = x; check x => (b => c);", 0, 1, 0},
		{bcx, "x = true -> false; o = x; check true -> not x;", 0, 1, 0},
	} {
		w.around(t)
	}
}

// TestP160Unlike: states are unlike by whatever memory, also by one on which nothing hangs.
func TestP160Unlike(t *testing.T) {
	t.Parallel()
	for _, w := range []wanted{
		{bcxy, "x = false fby x; y = false fby c; o = x; check not (x and b);", 0, 2, 0},
		{bcxy, "x = false fby x; y = false fby y; o = x; check not (x and b);", 0, 1, 0},
		{bcxy, "x = false fby x; y = false fby not y; o = x; check not (x and b);", 0, 2, 0},
		// ahead of what is wrong b was false
		{bcxy, "x = false fby x; y = false fby c; o = true -> pre b; check not (x and b);", 0, 3, 0},
		// two memories of one term are unlike only in the first state
		{bcx, "x = false fby x; o = (true -> pre c) = (true -> pre c); check not (x and b);", 0, 3, 0},
		{bcx, "x = false fby x; o = (true -> pre c) = (true -> pre b); check not (x and b);", 0, 3, 0},
		{bcx, "x = false fby x; o = b; check not (x and b); check true -> pre b or not pre b;", 0, 2, 0},
		{bcx, "x = false fby x; o = b; check not (x and b); check true -> pre c or not pre c;", 0, 3, 0},
		{bcx, "x = false fby x; o = b; check not (x and b); assert true -> pre c or not pre c;", 0, 3, 0},
		{bcx + "; n: int", "n = 0 fby (if n = 5 then 0 else n + 1); x = false fby x; o = x; check not (x and b and n = 30);", 0, 25, 0},
		{bcx + "; n: int", "n = 0 fby (if b then 1 else 0); x = false fby x; o = x; check not (x and c);", 0, 3, 0},
	} {
		w.around(t)
	}
	for n, want := range map[int]int{1: 2, 2: 4, 3: 8} {
		p := free(t, n)
		proved(t, p, 0, want-1, api.MaxEffort, 0)
		proved(t, p, 0, want, api.MaxEffort, want)
		proved(t, p, 0, api.MaxDepth, api.MaxEffort, want)
	}
}

func TestP160Traps(t *testing.T) {
	for _, w := range []wanted{
		{ib, "o = i;", -1, 1, 0},
		{ib, "o = i / 3;", -1, 1, 0},
		{ib, "o = 1 / 0;", -1, 0, 1},
		{ib, "o = 5 / (if b then 1 else 2);", -1, 1, 0},
		{ib, "o = i / (2 * i + 1);", -1, 1, 0},
		{ib, "o = 7 mod (i - 3);", -1, 0, 1},
		{ib, "o = 10 / (1 fby (if i = 0 then 1 else i));", -1, 1, 0},
		{ib, "o = 10 / (1 fby i);", -1, 0, 2},
		// what is late does not trap at the first instant
		{ib, "o = 1 -> 10 / pre i;", -1, 0, 2},
		{ib, "o = 1 -> 10 / pre (i * 2 + 1);", -1, 1, 0},
		{ibx, "x = 4 fby x - 1; o = 1 / x;", -1, 0, 5},
		{ibx, "x = 3 fby (if x = 1 then 3 else x - 1); o = 1 / x;", -1, 1, 0},
		{ibx, "x = 3 fby (if x = 1 then 3 else if x > 9 then 1 else x - 1); o = 1 / (x - 5);", -1, 5, 0},
		// where it traps no check is wrong, nor is one behind it
		{ibx, "x = 3 fby x - 1; o = 1 / x; check x > 0;", 0, 1, 0},
		{ibx, "x = 3 fby x - 1; o = 1 / x; check x <> -1;", 0, 1, 0},
		{ibx, "x = 3 fby x - 1; o = 1; check x <> -1;", 0, 0, 5},
		{ib, "o = 1 / i; check i <> 0;", 0, 1, 0},
		{ib, "o = 1 / 0; check false;", 0, 1, 0},
		{ib, "o = 1 / i; check false;", 0, 0, 1},
		// a check that fails ahead is nothing to a trap, nor to another check
		{ibx, "x = 3 fby x - 1; o = 1 / x; check false; check x > 1;", -1, 0, 4},
		{ibx, "x = 3 fby x - 1; o = 1 / x; check false; check x > 1;", 1, 0, 3},
		{ibx, "x = 3 fby (if x = 1 then 3 else x - 1); o = 1 / x; check false; check x > 0;", 1, 1, 0},
	} {
		w.around(t)
	}
}

// TestP160Asserts: of a check they hold at all instants, of a trap at all but the last one.
func TestP160Asserts(t *testing.T) {
	for _, w := range []wanted{
		{ib, "o = i; assert i > 0; check i > -1;", 0, 1, 0},
		{ib, "o = i; assert i > 0; check i > 1;", 0, 0, 1},
		{ib, "o = i; assert false; check false;", 0, 1, 0},
		{ib, "o = i; assert true -> false; check true -> false;", 0, 1, 0},
		{ib, "o = i; assert true fby true fby false; check true -> false;", 0, 0, 2},
		{bcx, "x = true fby x and b; o = x; assert b; check x;", 0, 1, 0},
		{bcx, "x = true fby x and b; o = x; assert b or c; check x;", 0, 0, 2},
		{bcx, "x = true fby x and b; o = x; assert b or c; check x or c;", 0, 0, 2},
		{bcx, "x = true fby x and b; o = x; assert x; check x;", 0, 1, 0},
		{ib, "o = 0 fby o + i; assert i = 1; assert o < 3; check o < 3;", 0, 1, 0},
		{ib, "o = 0 fby o + i; assert i = 1; assert o < 4; check o < 3;", 0, 0, 4},
		{ib, "o = 10 / i; assert i > 0;", -1, 0, 1},
		{ib, "o = 10 / i; assert false;", -1, 0, 1},
		{ib, "o = 10 / (1 fby i); assert i > 0;", -1, 1, 0},
		{ib, "o = 10 / (1 fby i); assert b;", -1, 0, 2},
		{ib, "o = 10 / (1 fby i); assert false;", -1, 1, 0},
		{ib, "o = 10 / (1 fby i); assert true -> false;", -1, 0, 2},
		{ib, "o = 10 / (1 fby 1 fby i); assert true -> false;", -1, 1, 0},
		{ib, "o = 10 / i; assert i > 0; check i > 0;", 0, 1, 0},
		// without its asserts, states lead there that are behind none
		{ibx, "x = 1 fby (if b then x + 1 else x); o = x; assert x < 5; check x <> 40;", 0, 1, 0},
		{ibx, "x = 1 fby (if b then x + 1 else x); o = x; assert x < 5 or x > 36; check x <> 40;", 0, 4, 0},
	} {
		w.around(t)
	}
}

// TestP160Same: always the same formulas, in new memory.
func TestP160Same(t *testing.T) {
	for _, p := range []flat.Program{
		made(t, ibx, "x = 1 fby (if b then x + 1 else x); o = x / i; assert x < 5 or x > 36; check x <> 40;"),
		made(t, bcx, "x = true fby x and b; o = x; assert b; check x;"),
		free(t, 2),
	} {
		for _, k := range []int{1, 2, 7} {
			for _, c := range []int{0, -1} {
				base, step := formulas(t, p, c, k)
				again, stepAgain := formulas(t, p, c, k)
				if !alike(base, again) || !alike(step, stepAgain) {
					t.Errorf("%s%d, %d: unlike", text(t, p), c, k)
				}
				for _, l := range [][]api.Clause{base.L, step.L} {
					for _, c := range l {
						clear(c)
						_ = append(c, 7)
					}
				}
				third, stepThird := formulas(t, p, c, k)
				if !alike(third, again) || !alike(stepThird, stepAgain) {
					t.Errorf("%s%d, %d: changed", text(t, p), c, k)
				}
			}
		}
	}
}

// TestP161Depth: up to as many as there can be.
func TestP161Depth(t *testing.T) {
	t.Parallel()
	for _, n := range []int{39, 40, 41} {
		p := made(t, ib, "o = 0 fby (if o = 10 then 0 else o + 1); check o <> "+strconv.Itoa(10+n)+";")
		want := n
		if n > api.MaxDepth {
			want = 0
		}
		proved(t, p, 0, api.MaxDepth, api.MaxEffort, want)
		proved(t, p, 0, n-1, api.MaxEffort, 0)
		_, step := formulas(t, p, 0, api.MaxDepth)
		if holds(t, step) != (n > api.MaxDepth) {
			t.Error(n)
		}
	}
	p := made(t, ib, "o = 1 fby (if b then o + 1 else o); check o < 40; check o < 41;")
	proved(t, p, 0, api.MaxDepth, api.MaxEffort, 0)
	proved(t, p, 1, api.MaxDepth, api.MaxEffort, 0)
	base, _ := formulas(t, p, 0, api.MaxDepth)
	later, _ := formulas(t, p, 1, api.MaxDepth)
	if !holds(t, base) || holds(t, later) {
		t.Error("at the last instant")
	}
}
