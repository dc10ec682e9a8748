package slim

import (
	"math/rand"
	"slices"
	"testing"

	"lustrum/api"
	"lustrum/flat"
	"lustrum/flow"
	"lustrum/tree"
)

const ib = "i: int; b: bool) returns (o: int)"

// how a program is made slim.
type how func(flat.Program) (flat.Program, error)

func hows() map[string]how { return map[string]how{"Fold": Fold, "Drop": Drop, "Same": Same} }

func op(s string, l ...tree.Expr) tree.Expr { return tree.Expr{Op: s, L: l} }

func name(s string) tree.Expr { return tree.Expr{Op: "name", S: s} }

func number(n int) tree.Expr { return tree.Expr{Op: "int", N: n} }

// literal of an int, which may be below 0.
func literal(n int) tree.Expr {
	if n < 0 {
		return op("neg", number(-n))
	}
	return number(n)
}

func drawn(r *rand.Rand, n int) []byte {
	l := make([]byte, n)
	r.Read(l)
	return l
}

// made of a head, up to what is declared, and of equations.
func made(t testing.TB, head, s string) flat.Program {
	t.Helper()
	l, err := tree.Read("node n(" + head + "; let " + s + " tel")
	if err != nil {
		t.Fatal(head, s, err)
	}
	p, err := flat.Make(l, "n")
	if err != nil {
		t.Fatal(head, s, err)
	}
	return p
}

func text(t testing.TB, p flat.Program) string {
	t.Helper()
	s, err := flat.Text(p)
	if err != nil {
		t.Fatalf("%v: %v", p, err)
	}
	return s
}

// slimmed program, which must be one.
func slimmed(t testing.TB, f how, p flat.Program) flat.Program {
	t.Helper()
	x, err := f(p)
	if err != nil {
		t.Fatalf("%s%v", text(t, p), err)
	}
	text(t, x)
	return x
}

// alike to the last part; a nil list and an empty one are one thing.
func alike(a, b flat.Program) bool {
	return slices.Equal(a.In, b.In) && slices.Equal(a.Out, b.Out) && slices.EqualFunc(a.L, b.L, alikeFlows) &&
		slices.EqualFunc(a.Asserts, b.Asserts, alikeTerms) && slices.EqualFunc(a.Checks, b.Checks, alikeTerms)
}

func alikeFlows(a, b flat.Flow) bool {
	return a.Name == b.Name && a.Kind == b.Kind && alikeTerms(a.E, b.E)
}

func alikeTerms(a, b tree.Expr) bool {
	return a.Op == b.Op && a.N == b.N && a.S == b.S && slices.EqualFunc(a.L, b.L, alikeTerms)
}

// want holds what a program is made of to another one.
func want(t testing.TB, f how, p, x flat.Program) {
	t.Helper()
	if got := slimmed(t, f, p); !alike(got, x) {
		t.Errorf("%.3000sis made\n%.3000s, want\n%.3000s", text(t, p), text(t, got), text(t, x))
	}
}

// told holds an error to what it must be; at -1: a bare one.
func told(t testing.TB, err error, at int, want error) {
	t.Helper()
	if at < 0 {
		if err != want {
			t.Errorf("%#v, want %v", err, want)
		}
		return
	}
	if f, ok := err.(*api.Fault); !ok || f.At != at || f.Err != want {
		t.Errorf("%#v, want %v at %d", err, want, at)
	}
}

// parts of all terms of a program.
func parts(p flat.Program) int {
	n := 0
	var count func(l []tree.Expr)
	count = func(l []tree.Expr) {
		n += len(l)
		for _, e := range l {
			count(e.L)
		}
	}
	for _, f := range p.L {
		count([]tree.Expr{f.E})
	}
	count(p.Asserts)
	count(p.Checks)
	return n
}

// ran a program, with such nils.
func ran(t testing.TB, p flat.Program, in [][]api.Value, nilBool bool, nilInt int) []flow.Tick {
	t.Helper()
	l, err := flow.Run(p, in, nilBool, nilInt)
	if err != nil {
		t.Fatalf("%s%v: %v", text(t, p), in, err)
	}
	return l
}
