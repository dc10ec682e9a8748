package plan

import (
	"math/rand"
	"reflect"
	"slices"
	"strconv"
	"strings"
	"testing"

	"lustrum/api"
	"lustrum/flat"
	"lustrum/order"
	"lustrum/plain"
	"lustrum/sample"
	"lustrum/tree"
	"lustrum/types"
)

// made of equations, with inputs i and b, an output o, and what else is declared.
func made(t testing.TB, own, s string) flat.Program {
	t.Helper()
	if own != "" {
		own = "var " + own + ";"
	}
	l, err := tree.Read("node n(i: int; b: bool) returns (o: int); " + own + " let " + s + " tel")
	if err != nil {
		t.Fatal(s, err)
	}
	p, err := flat.Make(l, "n")
	if err != nil {
		t.Fatal(s, err)
	}
	return p
}

func planned(t testing.TB, p flat.Program) *Plan {
	t.Helper()
	x, err := Of(p)
	if err != nil || x == nil {
		t.Fatal(p, err)
	}
	return x
}

// told of parts: the operator, the numbers behind it, `~` if it is late, and of a memory its number.
func told(x *Plan) string {
	var l []string
	for _, p := range x.Parts {
		s := p.Op
		for _, n := range p.Of {
			s += "." + strconv.Itoa(n)
		}
		switch p.Op {
		case "int", "true", "false":
			s += ":" + strconv.Itoa(p.N)
		case "pre", "fby":
			s += "@" + strconv.Itoa(p.Memory)
		}
		if p.Late {
			s += "~"
		}
		l = append(l, s)
	}
	return strings.Join(l, " ")
}

func TestParts(t *testing.T) {
	for _, c := range []struct{ own, s, want string }{
		{"", "o = i;", "input input name.0"},
		{"", "o = -5;", "input input int:5 neg.2"},
		{"x: bool; y: bool", "o = 1; x = true; y = false;", "input input int:1 true:1 false:0"},
		{"", "o = 7 -> pre i;", "input input int:7 name.0 pre.3@0~ ->.2.4"},
		{"", "o = 7 fby i;", "input input int:7 name.0 fby.2.3@0"},
		{"", "o = if b then i else 2;", "input input name.1 name.0 int:2 if.2.3.4"},
		{"x: int", "o = 1 -> x; x = pre o * i;", "input input int:1 name.8~ ->.2.3 name.4 pre.5@0~ name.0 *.6.7~"},
		{"", "check true fby b; assert b; o = 3;", "input input int:3 name.1 true:1 name.1 fby.4.5@0"},
	} {
		if got := told(planned(t, made(t, c.own, c.s))); got != c.want {
			t.Errorf("%s: %s, want %s", c.s, got, c.want)
		}
	}
}

func TestLists(t *testing.T) {
	p := made(t, "x: int; y: int", "x = 1 fby y; assert b; check true -> pre b; o = x + y; y = 2 -> pre i; check i > 0;")
	got := planned(t, p)
	// x: 2 to 4; o: 5 to 7; y: 8 to 11; the assert: 12; checks: 13 to 16, and 17 to 19
	want := Plan{Inputs: []int{0, 1}, Kept: []int{3, 9, 14}, Outs: []int{7}, Asserts: []int{12}, Checks: []int{16, 19}}
	if !slices.Equal(got.Inputs, want.Inputs) || !slices.Equal(got.Kept, want.Kept) || !slices.Equal(got.Outs, want.Outs) || !slices.Equal(got.Asserts, want.Asserts) || !slices.Equal(got.Checks, want.Checks) {
		t.Errorf("%+v, want %+v", *got, want)
	}
}

// inTurn: each part that is no input has one turn, behind those whose values it needs then.
func inTurn(t *testing.T, x *Plan) {
	t.Helper()
	turn := make([]int, len(x.Parts))
	for i, n := range x.Turns {
		if turn[n] != 0 || x.Parts[n].Op == Input {
			t.Fatalf("%s: %v", told(x), x.Turns)
		}
		turn[n] = 1 + i
	}
	for n, p := range x.Parts {
		if (turn[n] == 0) != (p.Op == Input) {
			t.Fatalf("%s: %d has no turn", told(x), n)
		}
		needs := p.Of
		switch p.Op {
		case "pre":
			needs = nil
		case "fby":
			needs = needs[:1]
		}
		for _, need := range needs {
			if turn[need] >= turn[n] {
				t.Fatalf("%s: %d ahead of %d", told(x), n, need)
			}
		}
	}
}

// walker goes through the terms of a program, part by part.
type walker struct {
	*testing.T
	*Plan
	kinds, lates map[string]int
	at, memories int
}

func (w *walker) term(e tree.Expr) {
	w.Helper()
	for _, part := range e.L {
		w.term(part)
	}
	p := w.Parts[w.at]
	kinds, err := types.Terms(w.kinds, []tree.Expr{e})
	if err != nil || p.Kind != kinds[0] || p.Op != e.Op || p.Late != (w.late(e) > 0) {
		w.Fatalf("%s: %d is not %v, %v", told(w.Plan), w.at, e, err)
	}
	if e.Op == "pre" || e.Op == "fby" {
		if p.Memory != w.memories || w.Kept[p.Memory] != w.at-1 || w.Parts[w.at-1].Late {
			w.Fatalf("%s: %d keeps %v", told(w.Plan), w.at, w.Kept)
		}
		w.memories++
	}
	w.at++
}

// late by the document's words.
func (w *walker) late(e tree.Expr) int {
	l := []int{0}
	for _, part := range e.L {
		l = append(l, w.late(part))
	}
	switch e.Op {
	case "name":
		return w.lates[e.S]
	case "pre":
		return l[1] + 1
	case "->", "fby":
		return l[1]
	}
	return slices.Max(l)
}

func TestDrawn(t *testing.T) {
	r := rand.New(rand.NewSource(6))
	parts, lates := 0, 0
	for range 2000 {
		choices := make([]byte, 600)
		r.Read(choices)
		p := sample.Program(choices)
		x := planned(t, p)
		inTurn(t, x)
		w := &walker{T: t, Plan: x, kinds: map[string]int{}, lates: map[string]int{}, at: len(p.In)}
		late, err := order.Late(p)
		if err != nil {
			t.Fatal(err)
		}
		for i, v := range p.In {
			w.kinds[v.Name] = v.Kind
			if x.Parts[i].Kind != v.Kind || x.Parts[i].Late {
				t.Fatalf("%v: %+v", v, x.Parts[i])
			}
		}
		for i, f := range p.L {
			w.kinds[f.Name], w.lates[f.Name] = f.Kind, late[i]
		}
		for _, f := range p.L {
			w.term(f.E)
		}
		for _, e := range slices.Concat(p.Asserts, p.Checks) {
			w.term(e)
		}
		if w.at != len(x.Parts) || w.memories != len(x.Kept) {
			t.Fatalf("%s: %d parts, %d memories", told(x), w.at, w.memories)
		}
		parts += len(x.Parts)
		for _, p := range x.Parts {
			if p.Late {
				lates++
			}
		}
	}
	if parts < 30000 || lates < 3000 {
		t.Errorf("only %d parts, %d late", parts, lates)
	}
}

func TestWrong(t *testing.T) {
	for _, p := range []flat.Program{
		{Out: []string{"x"}},
		{L: []flat.Flow{{Name: "x", Kind: 3}}},
		{In: make([]tree.Var, 2)},
		{L: []flat.Flow{{Name: "x", Kind: api.Int, E: tree.Expr{Op: "true"}}}},
		{Checks: []tree.Expr{{Op: "pre"}}},
		made(t, "x: int", "o = i; x = x + 1;"),
		made(t, "", "o = pre i;"),
		made(t, "x: int", "o = 1; x = pre pre i;"),
		made(t, "", "o = 1; check pre b;"),
	} {
		x, err := Of(p)
		code, at := plain.Code(err)
		wantCode, wantAt := plain.Code(order.Check(p))
		if x != nil || code == 0 || code != wantCode || at != wantAt {
			t.Errorf("%v: %v, %v", p, x, err)
		}
	}
	if x := planned(t, flat.Program{}); !reflect.DeepEqual(*x, Plan{Asserts: []int{}, Checks: []int{}}) {
		t.Errorf("%+v", *x)
	}
}

// TestMemory: the program is only read, and not kept.
func TestMemory(t *testing.T) {
	const own, s = "x: int", "x = 7 fby i + o; o = 1 -> pre x; assert b; check i > 0;"
	p := made(t, own, s)
	x := planned(t, p)
	want := planned(t, made(t, own, s))
	p.In[0], p.Out[0], p.L[0].E.L[0], p.L[1].Kind = tree.Var{}, "x", tree.Expr{Op: "int", N: 9}, 0
	p.Asserts[0].Op, p.Checks[0].L[1].N = "not", 3
	if !reflect.DeepEqual(x, want) {
		t.Errorf("%+v, want %+v", *x, *want)
	}
	x.Turns[0], x.Parts[4].Of[0], x.Kept[0] = 99, 98, 97
	if again := planned(t, made(t, own, s)); !reflect.DeepEqual(again, want) {
		t.Errorf("%+v, want %+v", *again, *want)
	}
}

func TestHasInts(t *testing.T) {
	for s, want := range map[string]bool{
		"b: bool) returns (o: bool); let o = b -> pre b; check o; assert true;": false,
		"b: bool; i: int) returns (o: bool); let o = b;":                        true,
		"b: bool) returns (o: bool; i: int); let o = b; i = 1;":                 true,
		"b: bool) returns (o: bool); let o = b; check o or 1 < 2;":              true,
		"b: bool) returns (o: bool); let o = b; assert o or 1 = 2;":             true,
		"b: bool) returns (o: bool); var p: bool; let o = p; p = b and not b;":  false,
		") returns (o: bool); let o = false fby (if o then 1 else 2) = 1 -> o;": true,
	} {
		l, err := tree.Read("node n(" + s + " tel")
		if err != nil {
			t.Fatal(s, err)
		}
		p, err := flat.Make(l, "n")
		if err != nil {
			t.Fatal(s, err)
		}
		if got := planned(t, p).HasInts(); got != want {
			t.Errorf("%s: %v", s, got)
		}
	}
	if planned(t, flat.Program{}).HasInts() {
		t.Error("of nothing")
	}
}
