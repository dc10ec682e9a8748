package slim

import (
	"strings"
	"testing"

	"lustrum/api"
	"lustrum/flat"
	"lustrum/flow"
	"lustrum/tree"
)

// folds holds a term of an int, among flows that are late by 1 (x, y, of an int and a bool), to what it is folded into.
func folds(t *testing.T, e, into string) {
	t.Helper()
	at := func(e string) flat.Program {
		return made(t, "i: int; b: bool) returns (o: int); var x: int; y: bool", "x = pre i; y = pre b; o = 1 -> "+e+";")
	}
	want(t, Fold, at(e), at(into))
}

func TestP180Literals(t *testing.T) {
	for e, into := range map[string]string{
		"(1 + 2 * 3)":                      "7",
		"(2 - 5)":                          "-3",
		"(7 / 2)":                          "3",
		"(-7 / 2)":                         "-3",
		"(-7 mod 2)":                       "-1",
		"(100 + 100)":                      "-56",
		"(12 * 12)":                        "-112",
		"(-100 - 100)":                     "56",
		"-(-4)":                            "4",
		"-(-(-4))":                         "-4",
		"-4":                               "-4",
		"-0":                               "0",
		"(i + -0)":                         "(i + 0)",
		"-(2 * 3)":                         "-6",
		"-(-127)":                          "127",
		"-127":                             "-127",
		"(0 - 127)":                        "-127",
		"(i + (1 + 1))":                    "(i + 2)",
		"(i + 1 + 1)":                      "(i + 1 + 1)", // (i + 1) is none
		"(1 + 1 + i)":                      "(2 + i)",
		"pre (1 + 1)":                      "pre 2",
		"(1 + 1 fby 2 * 2)":                "(2 fby 4)",
		"(1 fby 2)":                        "(1 fby 2)",
		"(1 + 1 -> 2 * 2)":                 "(2 -> 4)",
		"(if b then 1 + 1 else 2 - 3)":     "(if b then 2 else -1)",
		"(if b then 1 else 1)":             "(if b then 1 else 1)",
		"(if 1 < 2 then 1 else 2)":         "1",
		"(if 1 = -1 then 1 else -2)":       "-2",
		"(if true and b then 1 else 2)":    "(if true and b then 1 else 2)",
		"(if not true or y then 1 else 2)": "(if false or y then 1 else 2)",
		"(i * 0)":                          "(i * 0)",
		"(i - i)":                          "(i - i)",
		"(pre 1 + pre 1)":                  "(pre 1 + pre 1)",
	} {
		folds(t, e, into)
	}
}

// TestP180Least: of -128 there is no literal.
func TestP180Least(t *testing.T) {
	for e, into := range map[string]string{
		"(-127 - 1)":                               "(-127 - 1)",
		"(0 - 127 - 1)":                            "(-127 - 1)",
		"(127 + 1)":                                "(127 + 1)",
		"(60 + 67 + 1)":                            "(127 + 1)",
		"(-64 * 2)":                                "(-64 * 2)",
		"(-64 * (1 + 1))":                          "(-64 * 2)",
		"-(127 + 1)":                               "-(127 + 1)",
		"(127 + 1 + 1)":                            "(127 + 1 + 1)",
		"((127 + 1) / (1 - 2))":                    "((127 + 1) / -1)",
		"(127 + 2)":                                "-127",
		"(if 127 + 1 = 0 then 1 else 2 + 2)":       "(if 127 + 1 = 0 then 1 else 4)",
		"(if true then 127 + 1 else 3)":            "(127 + 1)",
		"(if false then 127 + 1 else 3)":           "3",
		"(if false then 127 + 1 else 100 + 28)":    "(100 + 28)",
		"(if true then -127 - (2 - 1) else 2 * i)": "(-127 - 1)",
	} {
		folds(t, e, into)
	}
}

// TestP180Traps: what traps stays.
func TestP180Traps(t *testing.T) {
	for e, into := range map[string]string{
		"(1 / 0)":                                  "(1 / 0)",
		"(1 mod 0)":                                "(1 mod 0)",
		"(0 / (2 - 2))":                            "(0 / 0)",
		"(0 mod -0)":                               "(0 mod 0)",
		"(1 + 1 / 0)":                              "(1 + 1 / 0)",
		"((2 + 2) / (1 / 0))":                      "(4 / (1 / 0))",
		"(0 / 3)":                                  "0",
		"(0 mod 3)":                                "0",
		"(if true then 1 / 0 else 2)":              "(1 / 0)",
		"(if true then 1 / i else 2)":              "(1 / i)",
		"(if true then i mod 2 else i)":            "(i mod 2)",
		"(if false then 1 / 0 else 2)":             "(if false then 1 / 0 else 2)",
		"(if false then 1 mod 0 else 2)":           "(if false then 1 mod 0 else 2)",
		"(if false then i / 2 else i)":             "(if false then i / 2 else i)",
		"(if false then i mod 2 else i)":           "(if false then i mod 2 else i)",
		"(if true then i else i / 2)":              "(if true then i else i / 2)",
		"(if true then i else i mod 2)":            "(if true then i else i mod 2)",
		"(if true then i else 1 + -(2 * (i / 2)))": "(if true then i else 1 + -(2 * (i / 2)))",
		"(if true then 1 / i else 1 / i)":          "(if true then 1 / i else 1 / i)",
		// what could not trap is none any more
		"(if true then i else 4 / 2)":                          "i",
		"(if true then i else (if false then i else 4 mod 3))": "i",
		"(if true then i else 4 / 0)":                          "(if true then i else 4 / 0)",
		"(if false then (if true then i / i else i) else i)":   "(if false then i / i else i)",
	} {
		folds(t, e, into)
	}
}

// TestP180Chosen: the part that counts, if the other one is no later.
func TestP180Chosen(t *testing.T) {
	for e, into := range map[string]string{
		"(if true then i else 5)":                            "i",
		"(if false then i else 5)":                           "5",
		"(if 1 > 2 then 3 else i * 2)":                       "i * 2",
		"(if not (1 > 2) then i + (1 + 1) else i)":           "(i + 2)",
		"(if true then x else 1)":                            "x",
		"(if false then 1 else x)":                           "x",
		"(if true then 1 else x)":                            "(if true then 1 else x)",
		"(if false then x else 1)":                           "(if false then x else 1)",
		"(if true then x else pre i)":                        "x",
		"(if false then x + 1 else pre i)":                   "pre i",
		"(if true then 1 else pre i)":                        "(if true then 1 else pre i)",
		"(if true then 1 else pre 1)":                        "(if true then 1 else pre 1)",
		"(if true then 1 + 1 else 2 * x)":                    "(if true then 2 else 2 * x)",
		"(if true then 1 else (0 -> x))":                     "1",
		"(if true then 1 else (0 fby i))":                    "1",
		"(if true then 1 else (x -> 0))":                     "(if true then 1 else (x -> 0))",
		"(if true then 1 else (x fby 0))":                    "(if true then 1 else (x fby 0))",
		"(if true then (x -> 0) else -x)":                    "(x -> 0)",
		"(if true then (0 -> x) else x)":                     "(if true then (0 -> x) else x)",
		"(if true then 1 else (if y then 1 else 2))":         "(if true then 1 else (if y then 1 else 2))",
		"(if true then 1 else (if b then 1 else x))":         "(if true then 1 else (if b then 1 else x))",
		"(if true then (if y then 1 else 2) else x)":         "(if y then 1 else 2)",
		"(if true then (if true then 1 else x) else x)":      "(if true then 1 else x)",
		"(if true then 1 else (if true then 2 else x))":      "(if true then 1 else (if true then 2 else x))",
		"(if true then 1 else (if false then x else 2))":     "(if true then 1 else (if false then x else 2))",
		"(if true then 1 else (if true then x else 2))":      "(if true then 1 else x)",
		"(if (if true then false else b) then i else i + 1)": "(i + 1)",
		"(if (if b then true else true) then i else 1)":      "(if (if b then true else true) then i else 1)",
		"(if (true -> true) then i else 1)":                  "(if (true -> true) then i else 1)",
		"pre (if true then i else 3)":                        "pre i",
	} {
		folds(t, e, into)
	}
}

// TestP180Operators: all of them, of literals.
func TestP180Operators(t *testing.T) {
	var terms []tree.Expr
	var wanted []string
	see := func(e tree.Expr, l ...api.Value) {
		v, trap, err := flow.Apply(e.Op, l)
		if err != nil {
			t.Fatal(e, err)
		}
		into := e
		if v.Kind == api.Bool {
			into = op(map[int]string{0: "false", 1: "true"}[v.N])
		} else if !trap && v.N > -128 {
			into = literal(v.N)
		}
		if v.Kind == api.Int || trap {
			e, into = op("=", e, name("i")), op("=", into, name("i"))
		}
		terms = append(terms, e)
		s, err := tree.Term(into)
		if err != nil {
			t.Fatal(into, err)
		}
		wanted = append(wanted, s)
	}
	ints := []int{-127, -126, -100, -64, -12, -11, -3, -2, -1, 0, 1, 2, 3, 11, 12, 64, 100, 126, 127}
	whole := func(n int) api.Value { return api.Value{Kind: api.Int, N: n} }
	truth := func(n int) (tree.Expr, api.Value) {
		return op([]string{"false", "true"}[n]), api.Value{Kind: api.Bool, N: n}
	}
	for _, a := range ints {
		see(op("neg", literal(a)), whole(a))
		for _, b := range ints {
			for _, s := range []string{"+", "-", "*", "/", "mod", "=", "<>", "<", "<=", ">", ">="} {
				see(op(s, literal(a), literal(b)), whole(a), whole(b))
			}
			for n := range 2 {
				e, v := truth(n)
				see(op("if", e, literal(a), literal(b)), v, whole(a), whole(b))
			}
		}
	}
	for n := range 8 {
		a, v := truth(n & 1)
		b, w := truth(n >> 1 & 1)
		c, x := truth(n >> 2)
		see(op("not", a), v)
		for _, s := range []string{"and", "or", "xor", "=>", "=", "<>"} {
			see(op(s, a, b), v, w)
		}
		see(op("if", a, b, c), v, w, x)
	}
	for len(terms) > 0 {
		n := min(len(terms), 300)
		p := flat.Program{In: []tree.Var{{Name: "i", Kind: api.Int}}, Checks: terms[:n]}
		got := text(t, slimmed(t, Fold, p))
		if s := "in i int\ncheck " + strings.Join(wanted[:n], "\ncheck ") + "\n"; got != s {
			t.Errorf("%s: %s, want %s", text(t, p), got, s)
		}
		terms, wanted = terms[n:], wanted[n:]
	}
}

// TestP180Everywhere: terms of flows, asserts and checks; all else is as it was, also a flow that is a literal where it is named.
func TestP180Everywhere(t *testing.T) {
	head := "i: int; b: bool; j: int) returns (o: int; q: bool; u: int); var c: int; x: int; l: bool"
	p := made(t, head, "c = 1 + 1; o = c + 1; x = pre (2 * c); l = not (not true); u = 3 -> if l then i else (if true then 1 else x); q = if 1 < 2 then b else l; "+
		"assert not false; check 1 + c = 2 + 1; assert if not true then l else b; check if c = 2 then true else 1 > 2; check true -> x = 1 * 2;")
	want(t, Fold, p, made(t, head, "c = 2; o = c + 1; x = pre (2 * c); l = true; u = 3 -> if l then i else (if true then 1 else x); q = b; "+
		"assert true; check 1 + c = 3; assert b; check if c = 2 then true else false; check true -> x = 2;"))
	want(t, Fold, flat.Program{}, flat.Program{})
}

// TestP180Deep: terms of as many parts as there may be.
func TestP180Deep(t *testing.T) {
	sum, many, last := number(1), name("i"), name("i")
	for range (api.MaxTerms - 1) / 2 {
		sum = op("-", number(1), sum)
	}
	for range (api.MaxTerms - 1) / 3 {
		many = op("if", op("true"), many, number(1))
	}
	late := op("pre", name("i"))
	for range (api.MaxTerms - 4) / 3 {
		last = op("if", op("false"), late, last)
		late = number(2)
	}
	at := func(e tree.Expr) flat.Program {
		in := []tree.Var{{Name: "i", Kind: api.Int}}
		return flat.Program{In: in, L: []flat.Flow{{Name: "o", Kind: api.Int, E: e}}}
	}
	want(t, Fold, at(sum), at(number(0)))
	want(t, Fold, at(many), at(name("i")))
	want(t, Fold, at(last), at(op("if", op("false"), op("pre", name("i")), name("i"))))
	negs := number(5)
	for range api.MaxTerms - 1 {
		negs = op("neg", negs)
	}
	want(t, Fold, at(negs), at(op("neg", number(5))))
}
