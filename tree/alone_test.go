package tree

import (
	"math/rand"
	"strings"
	"testing"

	"lustrum/api"
)

// TestTermAsText: a term alone is written as it is in a program, wherever Text writes it.
func TestTermAsText(t *testing.T) {
	r := rand.New(rand.NewSource(5))
	told := 0
	for range 5000 {
		e := anyTerm(r, 1+r.Intn(12))
		s, err := Text(program(e))
		if err != nil {
			continue
		}
		told++
		if got, err := Term(e); err != nil || before+got+behind != s {
			t.Fatalf("%v: %q, %v, want %q", e, got, err, s)
		}
	}
	if told < 2000 {
		t.Errorf("only %d terms", told)
	}
}

// TestTermAsItIs: names are not asked for, nor how deep or long the text is.
func TestTermAsItIs(t *testing.T) {
	for _, s := range []string{"0.x", "node", "", "a b", strings.Repeat("x", 2*api.MaxSource)} {
		for want, e := range map[string]Expr{s: named(s), "-" + s: op("neg", named(s)), s + "(" + s + ", 1)": call(s, named(s), num(1))} {
			if got, err := Term(e); got != want || err != nil {
				t.Errorf("%.50q, %v, want %.50q", got, err, want)
			}
		}
	}
	deep := grown(api.MaxTerms-1, num(1), func(e Expr) Expr { return op("neg", e) })
	if s, err := Term(deep); err != nil || s != strings.Repeat("-(", api.MaxTerms-2)+"-1"+strings.Repeat(")", api.MaxTerms-2) {
		t.Errorf("%.50q, %v", s, err)
	}
	if s, err := Term(op("neg", deep)); s != "" || err != api.ErrBound {
		t.Errorf("%.50q, %v", s, err)
	}
}

func TestTermWrong(t *testing.T) {
	for _, e := range []Expr{{}, op("zz"), op("neg"), op("+", num(1)), op("true", num(1)), num(-1), num(128), {Op: "int", S: "1"}, {Op: "name", S: "a", N: 1}, {Op: "call", S: "a", N: 1}, {Op: "true", S: "a"}, {Op: "not", N: 1, L: in(num(1))}} {
		for _, e := range []Expr{e, op("neg", e), op("->", num(1), e), call("f", num(1), e)} {
			if s, err := Term(e); s != "" || err != api.ErrShape {
				t.Errorf("%v: %q, %v", e, s, err)
			}
			wantShape(t, program(e))
		}
	}
}

func TestFormed(t *testing.T) {
	for _, e := range []Expr{num(0), num(127), named(""), named("a"), call("f"), call("", Expr{}), call("f", Expr{}, Expr{}), op("true"), op("not", Expr{}), op("=>", Expr{}, Expr{}), op("if", Expr{}, Expr{}, Expr{})} {
		if !Formed(e) {
			t.Errorf("%v", e)
		}
	}
	for _, e := range []Expr{{}, num(128), num(-1), {Op: "int", S: "a"}, op("int", Expr{}), op("name", Expr{}), {Op: "name", N: 1}, {Op: "call", N: -1}, op("true", Expr{}), {Op: "false", N: 1}, {Op: "false", S: "a"}, op("pre"), op("=", Expr{}), op("=", Expr{}, Expr{}, Expr{}), op("if", Expr{}, Expr{}), {Op: "neg", S: "a", L: in(Expr{})}, {Op: "neg", N: 1, L: in(Expr{})}} {
		if Formed(e) {
			t.Errorf("%v", e)
		}
	}
}

func TestBounded(t *testing.T) {
	chain := func(n int) Expr { return grown(n-1, num(1), func(e Expr) Expr { return op("pre", e) }) }
	half := chain(api.MaxTerms / 2)
	for i, l := range [][]Expr{nil, {}, {num(1)}, make([]Expr, api.MaxTerms), {chain(api.MaxTerms)}, {half, half}, {chain(api.MaxTerms - 1), num(1)}, {op("+", chain(api.MaxTerms-2), num(1))}, {call("f", make([]Expr, api.MaxTerms-1)...)}} {
		if !Bounded(l) {
			t.Errorf("%d", i)
		}
	}
	endless := grown(70, num(1), func(e Expr) Expr { return op("+", e, e) })
	for i, l := range [][]Expr{make([]Expr, api.MaxTerms+1), {chain(api.MaxTerms + 1)}, {half, half, num(1)}, {num(1), half, half}, {op("+", half, half)}, {endless}, {num(1), endless}, {chain(1000000)}, {call("f", make([]Expr, api.MaxTerms)...)}} {
		if Bounded(l) {
			t.Errorf("%d", i)
		}
	}
	if s, err := Term(endless); s != "" || err != api.ErrBound {
		t.Errorf("%.50q, %v", s, err)
	}
}
