package types

import (
	"strings"
	"testing"

	"lustrum/api"
	"lustrum/tree"
)

func wantOf(t *testing.T, l []tree.Node, node string, e tree.Expr, kind int, want error) {
	t.Helper()
	if k, err := Of(l, node, e); k != kind || err != want {
		t.Errorf("%s, %v: %d, %#v, want %d, %v", node, e, k, err, kind, want)
	}
}

func TestP32InItsNode(t *testing.T) {
	l := mustRead(t, inside(rest)+"node last(j: int) returns (i: bool); let i = j = 1; tel")
	for _, c := range []struct {
		node, term string
		kind       int
		err        error
	}{
		{"main", "i", api.Int, nil},
		{"last", "i", api.Bool, nil},
		{"one", "i", 0, api.ErrName},
		{"main", "j", api.Bool, nil},
		{"last", "j", api.Int, nil},
		{"main", "b", 0, api.ErrName},
		{"one", "b", api.Int, nil},
		{"two", "b", api.Bool, nil},
		{"main", "u", api.Int, nil}, // of Own
		{"last", "u", 0, api.ErrName},
		{"one", "one(1)", 0, api.ErrName}, // calls are of nodes ahead of that one
		{"one", "two(1, true)", 0, api.ErrName},
		{"two", "one(1)", api.Int, nil},
		{"two", "none()", 0, api.ErrName},
		{"none", "none()", 0, api.ErrName},
		{"none", "one(1)", api.Int, nil},
		{"main", "none()", api.Bool, nil},
		{"last", "main(1, true)", 0, api.ErrType},
		{"last", "two(1, true)", 0, api.ErrType}, // more than one value
		{"none", "two(1, true)", 0, api.ErrType},
		{"last", "last(1)", 0, api.ErrName},
		{"one", "t", 0, api.ErrName},
		{"one", "12 -> a mod 3", api.Int, nil},
		{"one", "a < b", api.Bool, nil},
		{"one", "a and b", 0, api.ErrType},
		{"one", "a + true", 0, api.ErrType},
	} {
		wantOf(t, l, c.node, term(t, c.term), c.kind, c.err)
	}
}

func TestP32Errors(t *testing.T) {
	good, right := mustRead(t, inside(rest)), term(t, "1")
	bad := mustRead(t, inside("x = zz;"))
	for _, node := range []string{"main", "one", "zz"} {
		for _, e := range []tree.Expr{right, {}, term(t, "zz"), term(t, "-true")} {
			k, err := Of(bad, node, e)
			if f, ok := err.(*api.Fault); k != 0 || !ok || f.At != 3 || f.Err != api.ErrName {
				t.Errorf("%d, %#v", k, err)
			}
		}
		wantOf(t, []tree.Node{{}}, node, right, 0, api.ErrShape)
		wantOf(t, nil, node, right, 0, api.ErrNone)
	}
	for _, node := range []string{"", "zz", "Main", "mai", "main ", "x", "int"} {
		for _, e := range []tree.Expr{right, {}, term(t, "zz"), term(t, "-true")} {
			wantOf(t, good, node, e, 0, api.ErrNone)
		}
	}
	num := tree.Expr{Op: "int", N: 1}
	for _, e := range []tree.Expr{
		{}, {Op: "int", N: 128}, {Op: "int", N: -1}, {Op: "int", S: "a"}, {Op: "int", L: []tree.Expr{num}},
		{Op: "true", N: 1}, {Op: "name"}, {Op: "name", S: "int"}, {Op: "name", S: "a b"}, {Op: "name", S: "zz", N: 1}, {Op: "name", S: "x;"}, {Op: "name", S: "i + i"},
		{Op: "neg"}, {Op: "neg", L: []tree.Expr{num, num}}, {Op: "+", L: []tree.Expr{num}}, {Op: "+", S: "x", L: []tree.Expr{num, num}},
		{Op: "if", L: []tree.Expr{num, num}}, {Op: "call"}, {Op: "call", S: "true"}, {Op: "call", S: "zz", N: 3},
		{Op: "neg", L: []tree.Expr{{Op: "zz"}}}, {Op: "<>", L: []tree.Expr{num, {}}}, {Op: "set", L: []tree.Expr{num}}, {Op: "1"}, {Op: "(", L: []tree.Expr{num}},
		{Op: "call", S: "three", L: []tree.Expr{{}}}, // ahead of what its names are
		{Op: "+", L: []tree.Expr{{Op: "true"}, {Op: "int", N: 200}}},
	} {
		wantOf(t, good, "main", e, 0, api.ErrShape)
	}
	// A nil list and an empty one are one thing.
	wantOf(t, good, "main", tree.Expr{Op: "call", S: "none", L: []tree.Expr{}}, api.Bool, nil)
	wantOf(t, good, "main", tree.Expr{Op: "true", L: []tree.Expr{}}, api.Bool, nil)
}

func TestP32Bounds(t *testing.T) {
	l := mustRead(t, inside(rest))
	nested := func(op string, n int) tree.Expr {
		e := tree.Expr{Op: "true"}
		for range n {
			e = tree.Expr{Op: op, L: []tree.Expr{e}}
		}
		return e
	}
	wantOf(t, l, "main", nested("not", api.MaxDeep), api.Bool, nil)
	wantOf(t, l, "main", nested("not", api.MaxDeep+1), 0, api.ErrShape)
	wantOf(t, l, "main", nested("pre", api.MaxDeep), api.Bool, nil)
	wantOf(t, l, "main", nested("pre", api.MaxDeep+1), 0, api.ErrShape)
	// As long as a term of any program can be, beside "node a() returns (a: int);", "let", "  a = ;" and "tel" with their ends of lines.
	room := api.MaxSource - len("node a() returns (a: int);\nlet\n  a = ;\ntel\n")
	sum := term(t, "1")
	for range (room - 1) / len(" + 1") {
		sum = tree.Expr{Op: "+", L: []tree.Expr{sum, {Op: "int", N: 1}}}
	}
	wantOf(t, l, "main", sum, api.Int, nil)
	wantOf(t, l, "main", tree.Expr{Op: "+", L: []tree.Expr{sum, {Op: "int", N: 1}}}, 0, api.ErrShape)
	wantOf(t, l, "main", tree.Expr{Op: "name", S: strings.Repeat("z", api.MaxName)}, 0, api.ErrName)
	wantOf(t, l, "main", tree.Expr{Op: "name", S: strings.Repeat("z", api.MaxName+1)}, 0, api.ErrShape)
}
