package judge

import (
	"reflect"
	"strconv"
	"testing"

	"lustrum/api"
	"lustrum/find"
	"lustrum/flat"
	"lustrum/prove"
	"lustrum/sample"
)

// wanted of a check (-1: a trap): its verdict, with the least number of instants that is enough for it.
type wanted struct {
	head, s string
	c       int
	kind    string
	n       int
}

// around holds a program to what is wanted at each depth around it, and well beyond.
func (w wanted) around(t *testing.T) {
	t.Helper()
	p := made(t, w.head, w.s)
	for depth := 1; depth <= w.n+3; depth++ {
		kind, n := w.kind, w.n
		if depth < w.n {
			kind, n = "unknown", 0
		}
		judged(t, p, w.c, depth, api.MaxEffort, kind, n)
		judged(t, p, w.c, depth, 20000, kind, n)
	}
}

func TestP170Checks(t *testing.T) {
	for _, w := range []wanted{
		{ib, "o = i; check i = i;", 0, "safe", 1},
		{ib, "o = i; check true;", 0, "safe", 1},
		{ib, "o = i; check false;", 0, "wrong", 1},
		{ib, "o = i; check i * i <> 3;", 0, "safe", 1},
		{ib, "o = i; check i * i <> 4;", 0, "wrong", 1},
		{ib, "o = i; check i > 4; check true; check i > 3 or i < 4;", 0, "wrong", 1},
		{ib, "o = i; check i > 4; check true; check i > 3 or i < 4;", 1, "safe", 1},
		{ib, "o = i; check i > 4; check true; check i > 3 or i < 4;", 2, "safe", 1},
		{ib, "o = 0 -> pre o + 1; check o < 5;", 0, "wrong", 6},
		{ib, "o = 0 -> pre o + i; check o < 5;", 0, "wrong", 2},
		{ib, "o = 1 -> 2; check o = 2; check o = 1;", 0, "wrong", 1},
		{ib, "o = 1 -> 2; check o = 2; check o = 1;", 1, "wrong", 2},
		{ib, "o = 0 fby (if o = 10 then 0 else o + 1); check o <> 12;", 0, "safe", 2},
		{ib, "o = 0 fby (if o = 10 then 0 else o + 1); check o <> 14;", 0, "safe", 4},
		{ib, "o = 0 fby (if o = 10 then 0 else o + 1); check o <> 10;", 0, "wrong", 11},
		{ib, "o = 0 fby (if b then o else -o); check o = 0;", 0, "safe", 1},
		{bc, "o = b and c; check not o;", 0, "wrong", 1},
		{bcxy, "x = true fby o; y = true fby x; o = true fby (y or c); check o;", 0, "safe", 3},
		{bcxy, "x = true fby o; y = true fby x; o = true fby (y and c); check o;", 0, "wrong", 2},
		// asserts
		{ib, "o = i; assert i > 0; check i > -1;", 0, "safe", 1},
		{ib, "o = i; assert i > 0; check i > 1;", 0, "wrong", 1},
		{ib, "o = i; assert false; check false;", 0, "safe", 1},
		{ib, "o = 0 fby o + i; assert i = 1; assert o < 4; check o < 3;", 0, "wrong", 4},
		{ib, "o = 0 fby o + i; assert i = 1; assert o < 3; check o < 3;", 0, "safe", 1},
		// where it traps no check is wrong
		{ib, "o = 1 / i; check i <> 0;", 0, "safe", 1},
		{ib, "o = 1 / i; check i <> 1;", 0, "wrong", 1},
		{ibx, "x = 3 fby x - 1; o = 1 / x; check x > 0;", 0, "safe", 1},
		{ibx, "x = 3 fby x - 1; o = 1 / x; check x > 1;", 0, "wrong", 3},
	} {
		w.around(t)
	}
}

func TestP170Traps(t *testing.T) {
	for _, w := range []wanted{
		{ib, "o = i; check false;", -1, "safe", 1},
		{ib, "o = i / 3;", -1, "safe", 1},
		{ib, "o = i / (2 * i + 1);", -1, "safe", 1},
		{ib, "o = 1 / 0;", -1, "wrong", 1},
		{ib, "o = 7 mod (i - 3);", -1, "wrong", 1},
		{ib, "o = 1 -> 10 / pre i;", -1, "wrong", 2},
		{ibx, "x = 4 fby x - 1; o = 1 / x;", -1, "wrong", 5},
		{ibx, "x = 3 fby (if x = 1 then 3 else if x > 9 then 1 else x - 1); o = 1 / (x - 5);", -1, "safe", 5},
		{ib, "o = 10 / i; assert false;", -1, "wrong", 1},
		{ib, "o = 10 / (1 fby i); assert false;", -1, "safe", 1},
		{ib, "o = 10 / (1 fby i); assert i > 0;", -1, "safe", 1},
		{ib, "o = 10 / (1 fby i); assert true -> false;", -1, "wrong", 2},
	} {
		w.around(t)
	}
}

// TestP170Unknown: what neither goes wrong within so many instants, nor is proved by as many.
func TestP170Unknown(t *testing.T) {
	t.Parallel()
	p := made(t, ib, "o = 0 -> if b then pre o + 1 else pre o; check o < 50; check o > -5; check o < 39;")
	for _, depth := range []int{1, 2, 17, api.MaxDepth} {
		judged(t, p, 0, depth, api.MaxEffort, "unknown", 0)
		judged(t, p, 1, depth, api.MaxEffort, "unknown", 0)
	}
	judged(t, p, 2, api.MaxDepth-1, api.MaxEffort, "unknown", 0)
	judged(t, p, 2, api.MaxDepth, api.MaxEffort, "wrong", api.MaxDepth)
	for n, kind := range map[int]string{39: "safe", 40: "safe", 41: "unknown"} {
		p := made(t, ib, "o = 0 fby (if o = 10 then 0 else o + 1); check o <> "+strconv.Itoa(10+n)+";")
		want := n
		if kind == "unknown" {
			want = 0
		}
		judged(t, p, 0, api.MaxDepth, api.MaxEffort, kind, want)
		judged(t, p, 0, n-2, api.MaxEffort, "unknown", 0)
	}
}

// TestP170Tired: with little effort nothing is told of what is hard; a proof may be there where a search for a trace tires.
func TestP170Tired(t *testing.T) {
	t.Parallel()
	p := made(t, "i: int; j: int) returns (o: int)", "o = i * j - j * i; check o = 0; check o <> 0; check i * j <> 119 or i < 2 or j < 2;")
	for _, effort := range []int{0, 20} {
		judged(t, p, 0, 3, effort, "unknown", 0)
		judged(t, p, -1, 3, effort, "safe", 1)
	}
	judged(t, p, 0, 3, api.MaxEffort, "safe", 1)
	judged(t, p, 1, 3, api.MaxEffort, "wrong", 1)
	judged(t, p, 2, 3, api.MaxEffort, "wrong", 1)
	p = made(t, "i: int) returns (x: int)", "x = 100 -> pre x / 2 + i mod 7; check x < 120;")
	if f, err := find.Trace(p, 0, 20, 10); f.Kind != "tired" || err != nil {
		t.Error(f.Kind, err)
	}
	judged(t, p, 0, 20, 10, "safe", 1)
	judged(t, p, 0, 20, 0, "unknown", 0)
}

// TestP170OneOfTwo: what one way tells is told, also where the other one cannot be gone.
func TestP170OneOfTwo(t *testing.T) {
	t.Parallel()
	p := sample.Heavy(60)
	if _, err := find.Trace(p, 0, api.MaxDepth, 100); err != api.ErrBound {
		t.Error(err)
	}
	judged(t, p, 0, api.MaxDepth, 100, "safe", 1)
	// From the beginning on y is true, which is seen at once, but not from any state on.
	p.L[1].E = op("fby", op("true"), name("y"))
	if _, ok, err := prove.Induction(p, 0, api.MaxDepth, 0); ok || err != nil {
		t.Error(ok, err)
	}
	refused(t, p, 0, api.MaxDepth, 0, -1, api.ErrBound)
	judged(t, p, 0, 2, 0, "unknown", 0)
	p = wide(100)
	if _, _, err := prove.Induction(p, 0, api.MaxDepth, 10000); err != api.ErrBound {
		t.Error(err)
	}
	judged(t, p, 0, api.MaxDepth, 10000, "wrong", 21)
	judged(t, p, 0, 21, 10000, "wrong", 21)
	refused(t, p, 0, 20, 10000, -1, api.ErrBound)
	judged(t, p, 0, 2, 10000, "unknown", 0)
	// The first of these is told, though the other one has a verdict.
	allRefused(t, p, 20, 10000, -1, api.ErrBound)
	judged(t, p, 1, 20, 10000, "wrong", 1)
}

// TestP170All: of the trap, then of each check, in their order.
func TestP170All(t *testing.T) {
	for _, w := range []struct {
		head, s string
		kinds   []string
		sizes   []int
	}{
		{ib, "o = 1 / i; check i <> 0; check i <> 1; check true -> i > pre i;", []string{"wrong", "safe", "wrong", "wrong"}, []int{1, 1, 1, 2}},
		{ib, "o = 0 fby (if b then o + 1 else o); check o < 3; check o > -5; check o < 3 or true; check o < 2;", []string{"safe", "wrong", "unknown", "safe", "wrong"}, []int{1, 4, 0, 1, 3}},
		{ib, "o = i;", []string{"safe"}, []int{1}},
		{ib, "o = 9 / (2 fby 1 fby o - 9);", []string{"wrong"}, []int{4}},
		{") returns (o: int)", "o = 1; check o = 1;", []string{"safe", "safe"}, []int{1, 1}},
		{bcxy, "x = false fby (x and b); y = false fby (c or y); o = x; check not o; check not y; check o => y;", []string{"safe", "safe", "wrong", "safe"}, []int{1, 1, 2, 1}},
	} {
		p := made(t, w.head, w.s)
		for _, effort := range []int{10000, api.MaxEffort} {
			l := all(t, p, 6, effort)
			for i, v := range l {
				if len(l) != len(w.kinds) || v.Kind != w.kinds[i] || size(v) != w.sizes[i] {
					t.Fatalf("%s%d: %s %d, want %v %v", w.s, i-1, v.Kind, size(v), w.kinds, w.sizes)
				}
				one := judged(t, p, i-1, 6, effort, v.Kind, size(v))
				if !reflect.DeepEqual(one, v) {
					t.Errorf("%s%d: %v, %v", w.s, i-1, v, one)
				}
			}
			told(t, Check(p, l), -1, nil)
		}
	}
	if l := all(t, flat.Program{}, 1, 0); l[0].Kind != "safe" {
		t.Error(l)
	}
}
