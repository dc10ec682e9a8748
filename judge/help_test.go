package judge

import (
	"math/rand"
	"reflect"
	"slices"
	"strconv"
	"testing"

	"lustrum/api"
	"lustrum/flat"
	"lustrum/flow"
	"lustrum/prove"
	"lustrum/tree"
)

const (
	ib   = "i: int; b: bool) returns (o: int)"
	ibx  = ib + "; var x: int"
	bc   = "b: bool; c: bool) returns (o: bool)"
	bcxy = bc + "; var x: bool; y: bool"
)

func whole(n int) api.Value { return api.Value{Kind: api.Int, N: n} }

func bit(n int) api.Value { return api.Value{Kind: api.Bool, N: n} }

func values(l ...api.Value) []api.Value { return l }

func op(s string, l ...tree.Expr) tree.Expr { return tree.Expr{Op: s, L: l} }

func name(s string) tree.Expr { return tree.Expr{Op: "name", S: s} }

func number(n int) tree.Expr { return tree.Expr{Op: "int", N: n} }

func drawn(r *rand.Rand, n int) []byte {
	l := make([]byte, n)
	r.Read(l)
	return l
}

// made of a head, up to what is declared, and of equations.
func made(t testing.TB, head, s string) flat.Program {
	t.Helper()
	l, err := tree.Read("node n(" + head + "; let " + s + " tel")
	if err != nil {
		t.Fatal(head, s, err)
	}
	p, err := flat.Make(l, "n")
	if err != nil {
		t.Fatal(head, s, err)
	}
	return p
}

func text(t testing.TB, p flat.Program) string {
	t.Helper()
	s, err := flat.Text(p)
	if err != nil {
		t.Fatalf("%v: %v", p, err)
	}
	return s
}

// leads by the document's words: are the last of these instants, and those ahead, as they are of what is wrong?
func leads(t testing.TB, p flat.Program, c int, in [][]api.Value) bool {
	t.Helper()
	l, err := flow.Run(p, in, true, 77)
	if err != nil {
		t.Fatalf("%s%v: %v", text(t, p), in, err)
	}
	if len(in) == 0 || len(l) < len(in) {
		return false
	}
	last := len(l) - 1
	if slices.ContainsFunc(l[:last], func(k flow.Tick) bool { return !k.Assert }) {
		return false
	}
	if c < 0 {
		return l[last].Trap
	}
	return !l[last].Trap && l[last].Assert && !l[last].Checks[c]
}

// isRight a verdict, by the document's words? It has what its kind asks for, and nothing else.
func isRight(t testing.TB, p flat.Program, c int, v Verdict) bool {
	t.Helper()
	switch v.Kind {
	case "safe":
		return len(v.Trace) == 0 && prove.Check(p, c, v.Proof) == nil
	case "wrong":
		return leads(t, p, c, v.Trace) && reflect.DeepEqual(v.Proof, prove.Proof{})
	case "unknown":
		return reflect.DeepEqual(v, Verdict{Kind: "unknown"})
	}
	return false
}

// size of a verdict: how many instants its trace has, or its proof takes.
func size(v Verdict) int { return len(v.Trace) + v.Proof.K }

// judged holds One to a kind and a size.
func judged(t testing.TB, p flat.Program, c, depth, effort int, kind string, want int) Verdict {
	t.Helper()
	v, err := One(p, c, depth, effort)
	if err != nil || v.Kind != kind || size(v) != want || !isRight(t, p, c, v) {
		t.Fatalf("%scheck %d, depth %d, effort %d: %s %d, %v, want %s %d", text(t, p), c, depth, effort, v.Kind, size(v), err, kind, want)
	}
	return v
}

// all verdicts, each of them right.
func all(t testing.TB, p flat.Program, depth, effort int) []Verdict {
	t.Helper()
	l, err := All(p, depth, effort)
	if err != nil || len(l) != 1+len(p.Checks) {
		t.Fatalf("%s%d verdicts, %v", text(t, p), len(l), err)
	}
	for i, v := range l {
		if !isRight(t, p, i-1, v) {
			t.Fatalf("%scheck %d: %v", text(t, p), i-1, v)
		}
	}
	return l
}

// told holds an error to what it must be; at -1: a bare one.
func told(t testing.TB, err error, at int, want error) {
	t.Helper()
	if at < 0 {
		if err != want {
			t.Errorf("%#v, want %v", err, want)
		}
		return
	}
	if f, ok := err.(*api.Fault); !ok || f.At != at || f.Err != want {
		t.Errorf("%#v, want %v at %d", err, want, at)
	}
}

// wide: so many memories that states of many instants, all unlike, are more clauses than there may be; o counts where b holds.
func wide(n int) flat.Program {
	p := flat.Program{
		In: []tree.Var{{Name: "i", Kind: api.Int}, {Name: "b", Kind: api.Bool}},
		L: []flat.Flow{{Name: "o", Kind: api.Int, E: op("fby", number(0),
			op("if", name("b"), op("+", name("o"), number(1)), name("o")))}},
		Checks: []tree.Expr{op("<", name("o"), number(20)), op(">=", name("i"), number(0))},
	}
	for k := range n {
		s := "n" + strconv.Itoa(k)
		p.L = append(p.L, flat.Flow{Name: s, Kind: api.Int, E: op("fby", number(k%99), op("+", name(s), name("i")))})
	}
	return p
}
