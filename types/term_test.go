package types

import (
	"strings"
	"testing"

	"lustrum/api"
	"lustrum/tree"
)

// term is read where names of all kinds are; it need not be right.
func term(t testing.TB, s string) tree.Expr {
	t.Helper()
	l := mustRead(t, inside("x = "+s+";"))
	return l[3].L[0].E
}

// wantTerm holds the type of a term of node main (0: it is wrong, with that error), by Of and by Check, in all places where it may stand.
func wantTerm(t *testing.T, s string, kind int, want error) {
	t.Helper()
	k, err := Of(mustRead(t, inside(rest)), "main", term(t, s))
	if k != kind || err != want {
		t.Errorf("%s: %d, %v, want %d, %v", s, k, err, kind, want)
	}
	asInt, asBool := want, want
	switch kind {
	case api.Int:
		asBool = api.ErrType
	case api.Bool:
		asInt = api.ErrType
	}
	wantCheck(t, inside("x = "+s+"; y = true; u = 1; v = true;"), 3, asInt)
	wantCheck(t, inside("x = 1; y = true; u = "+s+"; v = true;"), 3, asInt)
	wantCheck(t, inside("x = 1; y = "+s+"; u = 1; v = true;"), 3, asBool)
	wantCheck(t, inside("x = 1; y = true; u = 1; v = "+s+";"), 3, asBool)
	wantCheck(t, inside(rest+"assert "+s+";"), 3, asBool)
	wantCheck(t, inside("check "+s+"; "+rest), 3, asBool)
}

func TestP31Atoms(t *testing.T) {
	for s, kind := range map[string]int{"0": api.Int, "127": api.Int, "true": api.Bool, "false": api.Bool, "i": api.Int, "j": api.Bool, "x": api.Int, "y": api.Bool, "u": api.Int, "v": api.Bool} {
		wantTerm(t, s, kind, nil)
	}
}

// TestP31Operators goes through all operators with parts of all types.
func TestP31Operators(t *testing.T) {
	const b, i = api.Bool, api.Int
	// Of each form, what it is with two bools, a bool and an int, an int and a bool, two ints (0: wrong).
	forms := map[string][4]int{
		"A and B": {b, 0, 0, 0}, "A or B": {b, 0, 0, 0}, "A xor B": {b, 0, 0, 0}, "A => B": {b, 0, 0, 0},
		"A + B": {0, 0, 0, i}, "A - B": {0, 0, 0, i}, "A * B": {0, 0, 0, i}, "A / B": {0, 0, 0, i}, "A mod B": {0, 0, 0, i},
		"A < B": {0, 0, 0, b}, "A <= B": {0, 0, 0, b}, "A > B": {0, 0, 0, b}, "A >= B": {0, 0, 0, b},
		"A = B": {b, 0, 0, b}, "A <> B": {b, 0, 0, b},
		"A -> B": {b, 0, 0, i}, "A fby B": {b, 0, 0, i},
		"if true then A else B": {b, 0, 0, i}, "if A then B else B": {b, i, 0, 0}, "if A then B else A": {b, 0, 0, 0}, "if 1 then A else B": {},
		"not A": {b, b, 0, 0}, "-A": {0, 0, i, i}, "pre A": {b, b, i, i},
		"one(A)": {0, 0, i, i}, "none()": {b, b, b, b}, "none() = A": {b, b, 0, 0}, "one(1) = A": {0, 0, b, b},
	}
	for form, kinds := range forms {
		for n, kind := range kinds {
			first, second := [2]string{"(j)", "(i)"}[n/2], [2]string{"(v)", "(u)"}[n%2]
			var want error
			if kind == 0 {
				want = api.ErrType
			}
			wantTerm(t, strings.ReplaceAll(strings.ReplaceAll(form, "A", first), "B", second), kind, want)
		}
	}
}

func TestP31Calls(t *testing.T) {
	for s, kind := range map[string]int{"one(1)": api.Int, "one(one(i))": api.Int, "none()": api.Bool, "if none() then one(2) else 3": api.Int} {
		wantTerm(t, s, kind, nil)
	}
	for _, s := range []string{"one()", "one(true)", "one(1, 2)", "one(1, true)", "none(1)", "none(none())", "two(1, true)", "two()", "two(true, 1)", "two(1)", "one(two(1, true))", "pre two(1, true)", "two(1, true) = two(1, true)", "two(1, true) -> two(1, true)", "if true then two(1, true) else two(1, true)"} {
		wantTerm(t, s, 0, api.ErrType)
	}
	for _, s := range []string{
		"(x, y) = two(1, true); u = 1; v = true;",
		"(u, v) = two(1, true); x = 1; y = true;",
		"(x, v) = two(i, j and none()); (u, y) = two(x, v);",
		"(x, y) = (two(x, y)); u = 1; v = true;", // brackets are no part of a term
	} {
		wantCheck(t, inside(s), 0, nil)
	}
	for s, want := range map[string]error{
		"(y, x) = two(1, true);":                             api.ErrType,
		"(x, u) = two(1, true);":                             api.ErrType,
		"(x, y, u) = two(1, true);":                          api.ErrType,
		"(x, y) = two(1, 1);":                                api.ErrType,
		"(x, y) = two(1);":                                   api.ErrType,
		"(x, y) = two(1, true, 1);":                          api.ErrType,
		"(x, u) = one(1);":                                   api.ErrType,
		"(x, y) = 1;":                                        api.ErrType,
		"(x, y) = pre two(1, true);":                         api.ErrType,
		"(x, y) = two(1, true) fby two(1, true);":            api.ErrType,
		"(x, y) = if j then two(1, true) else two(1, true);": api.ErrType,
		"(x, y) = one(two(1, true));":                        api.ErrType,
		"(x, y) = two(two(x, y), true);":                     api.ErrType,
		"(x, y) = two(1, 2) + zz;":                           api.ErrType,
		"(x, y) = three(two(1, 2));":                         api.ErrName,
		"(x, y) = two(zz, true);":                            api.ErrName,
		"(x, zz) = two(1, 2);":                               api.ErrName,
		"(x, y) = two(zz);":                                  api.ErrName,
		"(x, y) = two(1, zz) + 1;":                           api.ErrName,
	} {
		wantCheck(t, inside(s+" u = 1; v = true;"), 3, want)
	}
}

// TestP31FirstWrong: names and types are gone through as one, from the innermost and the left on.
func TestP31FirstWrong(t *testing.T) {
	for s, want := range map[string]error{
		"true + zz":                            api.ErrName, // a part is further in than what it is a part of
		"zz + true":                            api.ErrName,
		"(true + 1) + zz":                      api.ErrType, // the left one comes first
		"zz + (true + 1)":                      api.ErrName,
		"(1 + 1) + zz":                         api.ErrName,
		"not 1 and zz":                         api.ErrType,
		"if 1 then zz else 2":                  api.ErrName,
		"if not 1 then zz else 2":              api.ErrType,
		"if j then 1 + j else zz":              api.ErrType,
		"if j then zz else 1 + j":              api.ErrName,
		"if j then (1 -> true) else f()":       api.ErrType,
		"three(1 + true)":                      api.ErrName, // the node ahead of its arguments
		"three(not 1) + zz":                    api.ErrName,
		"one(1 + true) + three()":              api.ErrType,
		"one(three(1 + true))":                 api.ErrName,
		"one(true, zz)":                        api.ErrName, // the arguments ahead of how many, and of their types
		"one(1 + true, zz)":                    api.ErrType,
		"one(zz, 1 + true)":                    api.ErrName,
		"none(zz)":                             api.ErrName,
		"two(1, true) + zz":                    api.ErrType, // what has two values may not stand there
		"two(zz, true) + 1":                    api.ErrName,
		"zz + two(1, true)":                    api.ErrName,
		"one(two(1, true), zz)":                api.ErrType,
		"pre (1 fby true) -> zz":               api.ErrType,
		"(1 < true) = three()":                 api.ErrType,
		"-true * zz":                           api.ErrType,
		"(if j then 1 else true) mod zz":       api.ErrType,
		"one(1) + (pre i + (1 + (true + zz)))": api.ErrName,
	} {
		wantTerm(t, s, 0, want)
	}
}
