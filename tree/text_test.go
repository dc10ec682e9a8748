package tree

import (
	"reflect"
	"strings"
	"testing"

	"lustrum/api"
)

var binaries = strings.Fields("and or xor => = <> < <= > >= + - * / mod -> fby")

// program of one node, with one equation that checks a term.
func program(e Expr) []Node {
	return []Node{{Name: "a", Out: []Var{{"x", api.Bool}}, L: []Equation{{Kind: "check", E: e}}}}
}

const (
	before = "node a() returns (x: bool);\nlet\n  check "
	behind = ";\ntel\n"
)

// wantTerm holds that a term is written so, and read again.
func wantTerm(t *testing.T, e Expr, want string) {
	t.Helper()
	s, err := Text(program(e))
	if err != nil || s != before+want+behind {
		t.Errorf("%v: %q, %v, want %q", e, s, err, want)
		return
	}
	if l, err := Read(s); err != nil || !alike(l, program(e)) {
		t.Errorf("%v: %q: %v, %v", e, s, l, err)
	}
}

// wantShape holds that a program is refused, bare, and that nothing is written.
func wantShape(t *testing.T, l []Node) {
	t.Helper()
	if s, err := Text(l); err != api.ErrShape || s != "" {
		t.Errorf("%.300v: %.300q, %v", l, s, err)
	}
}

func TestP24Layout(t *testing.T) {
	for s, want := range map[string]string{
		"":                                     "",
		"-- nothing":                           "",
		"node a()returns(x:bool);let tel":      oneNode,
		"node a(y:int)returns(x:bool);let tel": "node a(y: int) returns (x: bool);\nlet\ntel\n",
		"node a(y:int;z:bool)returns(x:bool;w:int);var v:int;let tel":   "node a(y: int; z: bool) returns (x: bool; w: int);\nvar v: int;\nlet\ntel\n",
		"node a()returns(x:bool);var v:int;u:bool;let x=1;tel":          "node a() returns (x: bool);\nvar v: int; u: bool;\nlet\n  x = 1;\ntel\n",
		"node a()returns(x:bool);let(x,y,z)=f();assert(x);check(1);tel": "node a() returns (x: bool);\nlet\n  (x, y, z) = f();\n  assert x;\n  check 1;\ntel\n",
		"node count() returns (n: int); let n=0->(pre n)+1; tel":        "node count() returns (n: int);\nlet\n  n = 0 -> pre n + 1;\ntel\n",
		oneNode + "\n\n" + oneNode:                                      oneNode + oneNode,
	} {
		got, err := Text(mustRead(t, s))
		if got != want || err != nil {
			t.Errorf("%q: %q, %v, want %q", s, got, err, want)
		}
	}
	if s, err := Text(nil); s != "" || err != nil {
		t.Errorf("%q, %v", s, err)
	}
}

func TestP24Terms(t *testing.T) {
	x, y := named("x"), named("y")
	arrow, choice := op("->", x, y), op("if", x, y, num(0))
	for want, e := range map[string]Expr{
		"0":                                 num(0),
		"127":                               num(127),
		"true":                              op("true"),
		"false":                             op("false"),
		"x":                                 x,
		"f()":                               call("f"),
		"f(x)":                              call("f", x),
		"f(x, -1, not y, g())":              call("f", x, op("neg", num(1)), op("not", y), call("g")),
		"f(x -> y)":                         call("f", arrow),
		"f(if x then y else 0)":             call("f", choice),
		"not x":                             op("not", x),
		"not not x":                         op("not", op("not", x)),
		"not -x":                            op("not", op("neg", x)),
		"-x":                                op("neg", x),
		"-(-x)":                             op("neg", op("neg", x)),
		"-(-(-1))":                          op("neg", op("neg", op("neg", num(1)))),
		"-pre -x":                           op("neg", op("pre", op("neg", x))),
		"-(not x)":                          op("neg", op("not", x)),
		"-f(x)":                             op("neg", call("f", x)),
		"-(x * y)":                          op("neg", op("*", x, y)),
		"-x * y":                            op("*", op("neg", x), y),
		"x * -y":                            op("*", x, op("neg", y)),
		"x - -y":                            op("-", x, op("neg", y)),
		"x - -(-y)":                         op("-", x, op("neg", op("neg", y))),
		"x - -y * 2":                        op("-", x, op("*", op("neg", y), num(2))),
		"-x - -y":                           op("-", op("neg", x), op("neg", y)),
		"x -> -y":                           op("->", x, op("neg", y)),
		"pre x":                             op("pre", x),
		"pre pre x":                         op("pre", op("pre", x)),
		"pre -x":                            op("pre", op("neg", x)),
		"pre (x -> y)":                      op("pre", arrow),
		"pre (not x)":                       op("pre", op("not", x)),
		"pre (if x then y else 0)":          op("pre", choice),
		"pre f(x)":                          op("pre", call("f", x)),
		"x -> pre y + 1":                    op("->", x, op("+", op("pre", y), num(1))),
		"x -> if x then y else 0":           op("->", x, choice),
		"(if x then y else 0) -> x":         op("->", choice, x),
		"(x -> y) fby x":                    op("fby", arrow, x),
		"x fby x -> y":                      op("fby", x, arrow),
		"if x -> y then x -> y else x -> y": op("if", arrow, arrow, arrow),
		"if if x then y else 0 then if x then y else 0 else if x then y else 0": op("if", choice, choice, choice),
		"(if x then y else 0) or x": op("or", choice, x),
		"x or (x -> y)":             op("or", x, arrow),
		"x or y xor x":              op("xor", op("or", x, y), x),
		"x or (y xor x)":            op("or", x, op("xor", y, x)),
		"x or y and x":              op("or", x, op("and", y, x)),
		"(x or y) and x":            op("and", op("or", x, y), x),
		"x and (y and x)":           op("and", x, op("and", y, x)),
		"not x and not y":           op("and", op("not", x), op("not", y)),
		"not (x and y)":             op("not", op("and", x, y)),
		"not x = y":                 op("not", op("=", x, y)),
		"(not x) = y":               op("=", op("not", x), y),
		"x = (not y)":               op("=", x, op("not", y)),
		"x => y":                    op("=>", x, y),
		"x => (y => x)":             op("=>", x, op("=>", y, x)),
		"(x => y) => x":             op("=>", op("=>", x, y), x),
		"x and y => x":              op("and", x, op("=>", y, x)),
		"(x and y) => x":            op("=>", op("and", x, y), x),
		"x + y = y - x":             op("=", op("+", x, y), op("-", y, x)),
		"x - y - x":                 op("-", op("-", x, y), x),
		"x - (y - x)":               op("-", x, op("-", y, x)),
		"x - (y + x)":               op("-", x, op("+", y, x)),
		"x + y mod x":               op("+", x, op("mod", y, x)),
		"x / (y * x)":               op("/", x, op("*", y, x)),
		"x / y * x":                 op("*", op("/", x, y), x),
		"(x = y) + 1":               op("+", op("=", x, y), num(1)),
	} {
		wantTerm(t, e, want)
	}
}

func TestP24WrongTerms(t *testing.T) {
	x := named("x")
	for _, e := range []Expr{
		{},
		{Op: "Int"},
		{Op: "int", N: -1},
		{Op: "int", N: 128},
		{Op: "int", N: -1 << 63},
		{Op: "int", S: "1"},
		{Op: "int", L: in(x)},
		{Op: "true", N: 1},
		{Op: "false", S: "x"},
		{Op: "true", L: in(x)},
		{Op: "name"},
		{Op: "name", S: "if"},
		{Op: "name", S: "X"},
		{Op: "name", S: "1"},
		{Op: "name", S: "x "},
		{Op: "name", S: "x y"},
		{Op: "name", S: "x + y"},
		{Op: "name", S: "f()"},
		{Op: "name", S: "x--"},
		{Op: "name", S: "true"},
		{Op: "name", S: "abcdefghijklm"},
		{Op: "name", S: "x;\n  check y"},
		{Op: "name", S: "x", N: 1},
		{Op: "name", S: "x", L: in(x)},
		{Op: "call", L: in(x)},
		{Op: "call", S: "mod", L: in(x)},
		{Op: "call", S: "f", N: 1},
		{Op: "call", S: "f(x) + f", L: in(x)},
		{Op: "not"},
		{Op: "not", L: in(x, x)},
		{Op: "neg"},
		{Op: "neg", L: in(x), N: 1},
		{Op: "neg", L: in(x, x)},
		{Op: "pre", L: in(x), S: "x"},
		{Op: "-", L: in(x)},
		{Op: "+", L: in(x, x, x)},
		{Op: "->", L: in(x, x), S: "f"},
		{Op: "if", L: in(x, x)},
		{Op: "if", L: in(x, x, x, x)},
		{Op: "if", L: in(x, x, x), N: 3},
		{Op: "==", L: in(x, x)},
		{Op: ";", L: in(x, x)},
		{Op: "(", L: in(x)},
		{Op: "set", L: in(x)},
	} {
		wantShape(t, program(e))
		wantShape(t, program(op("not", e)))
		wantShape(t, program(op("and", x, e)))
		wantShape(t, program(op("->", e, x)))
		wantShape(t, program(op("if", x, e, x)))
		wantShape(t, program(call("f", x, e)))
	}
}

func TestP24WrongNodes(t *testing.T) {
	out := []Var{{"x", api.Bool}}
	yes := op("true")
	good := Node{Name: "a", Out: out}
	if s, err := Text([]Node{good}); s != oneNode || err != nil {
		t.Fatalf("%q, %v", s, err)
	}
	for _, n := range []Node{
		{Out: out},
		{Name: "a"},
		{Name: "a", In: out},
		{Name: "A", Out: out},
		{Name: "node", Out: out},
		{Name: "a ", Out: out},
		{Name: "a() returns (x: bool);\nlet\ntel\nnode a", Out: out},
		{Name: "a", Out: []Var{{"x", 0}}},
		{Name: "a", Out: []Var{{"x", 3}}},
		{Name: "a", Out: []Var{{"x", -1}}},
		{Name: "a", Out: []Var{{"", api.Bool}}},
		{Name: "a", Out: []Var{{"x: int; y", api.Bool}}},
		{Name: "a", Out: out, In: []Var{{"tel", api.Int}}},
		{Name: "a", Out: out, In: []Var{{"y", 0}}},
		{Name: "a", Out: out, In: []Var{{"y: int; z", api.Int}}},
		{Name: "a", Out: out, Own: []Var{{"y: int; z", api.Int}}},
		{Name: "a", Out: out, Own: []Var{{"y ", api.Int}}},
		{Name: "a", Out: out, Own: []Var{{"y", 0}}},
		{Name: "a", Out: out, Own: []Var{{"9", api.Int}}},
		{Name: "a", Out: out, L: []Equation{{}}},
		{Name: "a", Out: out, L: []Equation{{E: yes}}},
		{Name: "a", Out: out, L: []Equation{{Kind: "Set", Names: []string{"x"}, E: yes}}},
		{Name: "a", Out: out, L: []Equation{{Kind: "set", E: yes}}},
		{Name: "a", Out: out, L: []Equation{{Kind: "set", Names: []string{""}, E: yes}}},
		{Name: "a", Out: out, L: []Equation{{Kind: "set", Names: []string{"x", ""}, E: yes}}},
		{Name: "a", Out: out, L: []Equation{{Kind: "set", Names: []string{"x", "or"}, E: yes}}},
		{Name: "a", Out: out, L: []Equation{{Kind: "set", Names: []string{"(x, y)"}, E: yes}}},
		{Name: "a", Out: out, L: []Equation{{Kind: "set", Names: []string{"x"}}}},
		{Name: "a", Out: out, L: []Equation{{Kind: "assert", Names: []string{"x"}, E: yes}}},
		{Name: "a", Out: out, L: []Equation{{Kind: "check", Names: []string{"x", "y"}, E: yes}}},
		{Name: "a", Out: out, L: []Equation{{Kind: "check"}}},
	} {
		wantShape(t, []Node{n})
		wantShape(t, []Node{good, n, good})
	}
}

// TestP24EmptyLists: a nil list and an empty one are one thing.
func TestP24EmptyLists(t *testing.T) {
	l := []Node{{Name: "a", In: []Var{}, Out: []Var{{"x", api.Bool}}, Own: []Var{}, L: []Equation{}}}
	if s, err := Text(l); s != oneNode || err != nil {
		t.Errorf("%q, %v", s, err)
	}
	wantTerm(t, Expr{Op: "call", S: "f", L: []Expr{}}, "f()")
	wantTerm(t, Expr{Op: "+", L: []Expr{{Op: "int", L: []Expr{}}, {Op: "true", L: []Expr{}}}}, "0 + true")
}

func TestP24ManyNodes(t *testing.T) {
	l := make([]Node, api.MaxNodes, api.MaxNodes+1)
	for i := range l {
		l[i] = Node{Name: "a", Out: []Var{{"x", api.Bool}}}
	}
	if s, err := Text(l); s != strings.Repeat(oneNode, api.MaxNodes) || err != nil {
		t.Errorf("%q, %v", s, err)
	}
	wantShape(t, append(l, l[0]))
}

// grown is a term inside others, n times.
func grown(n int, e Expr, grow func(Expr) Expr) Expr {
	for range n {
		e = grow(e)
	}
	return e
}

func TestP24Deep(t *testing.T) {
	for _, c := range []struct {
		most int
		grow func(Expr) Expr
	}{
		{api.MaxDeep, func(e Expr) Expr { return op("pre", e) }},
		{api.MaxDeep, func(e Expr) Expr { return op("not", e) }},
		{api.MaxDeep, func(e Expr) Expr { return op("->", num(1), e) }},
		{api.MaxDeep, func(e Expr) Expr { return op("fby", num(1), e) }},
		{api.MaxDeep, func(e Expr) Expr { return op("if", num(1), e, num(2)) }},
		{api.MaxDeep, func(e Expr) Expr { return call("f", e, num(1)) }},
		// Brackets count, too: there are none around the outermost operator.
		{api.MaxDeep, func(e Expr) Expr { return op("->", e, num(1)) }},
		{api.MaxDeep + 1, func(e Expr) Expr { return op("+", num(1), e) }},
		{api.MaxDeep / 2, func(e Expr) Expr { return op("neg", e) }},
	} {
		e := grown(c.most, num(1), c.grow)
		if s, err := Text(program(e)); err != nil {
			t.Errorf("%q, %v", s, err)
		}
		wantShape(t, program(c.grow(e)))
		wantShape(t, program(grown(100, e, c.grow)))
	}
	// None of these are deep.
	for _, c := range []func(Expr) Expr{
		func(e Expr) Expr { return op("+", e, num(1)) },
		func(e Expr) Expr { return op("and", e, op("not", num(1))) },
	} {
		if _, err := Text(program(grown(300, num(1), c))); err != nil {
			t.Error(err)
		}
	}
}

// TestP24Long: a text of MaxSource bytes is written, one of a byte more is not.
func TestP24Long(t *testing.T) {
	const line = "  check 1;\n"
	for n := range api.MaxName {
		l := program(named(strings.Repeat("a", n+1)))
		size := len(before+behind) + n + 1
		for size+len(line) <= api.MaxSource {
			l[0].L = append(l[0].L, Equation{Kind: "check", E: num(1)})
			size += len(line)
		}
		if s, err := Text(l); len(s) != size || err != nil {
			t.Error(size, len(s), err)
		}
		l[0].L = append(l[0].L, Equation{Kind: "check", E: num(1)})
		wantShape(t, l)
	}
	sum := grown((api.MaxSource-len(before+behind))/4, named("x"), func(e Expr) Expr { return op("+", e, num(1)) })
	last := api.MaxSource - len(before+behind) - (api.MaxSource-len(before+behind))/4*4
	for extra := range 8 {
		e := op("+", sum.L[0], named(strings.Repeat("b", 1+extra)))
		s, err := Text(program(e))
		if fits := extra < last; fits != (err == nil) || fits && len(s) != api.MaxSource-last+1+extra {
			t.Error(extra, last, len(s), err)
		}
	}
}

// TestP1Huge: terms without end, as good as, are refused soon.
func TestP1Huge(t *testing.T) {
	double := func(o string) func(Expr) Expr {
		return func(e Expr) Expr { return Expr{Op: o, L: in(e, e)} }
	}
	for _, o := range []string{"+", "->", "=", "call", "mod"} {
		e := grown(80, named("x"), double(o))
		if o == "call" {
			e = grown(80, named("x"), func(e Expr) Expr { return call("f", e, e) })
		}
		wantShape(t, program(e))
		wantShape(t, program(grown(80, Expr{Op: "name"}, double(o))))
	}
	for _, grow := range []func(Expr) Expr{
		func(e Expr) Expr { return op("+", e, num(1)) },
		func(e Expr) Expr { return op("->", e, num(1)) },
		func(e Expr) Expr { return op("+", num(1), e) },
		func(e Expr) Expr { return op("neg", e) },
		func(e Expr) Expr { return call("f", e) },
		func(e Expr) Expr { return op("if", e, e, e) },
	} {
		wantShape(t, program(grown(1<<16, num(1), grow)))
	}
	// A list that holds itself stands for terms deeper than a stack could be.
	e := op("+", num(1), num(1))
	e.L[0] = e
	wantShape(t, program(e))
	long := strings.Repeat("a", 1<<20)
	wantShape(t, program(named(long)))
	wantShape(t, make([]Node, 1<<20))
	wantShape(t, []Node{{Name: long, In: make([]Var, 1<<20)}})
	wantShape(t, []Node{{Name: "a", Out: make([]Var, 1<<20), L: make([]Equation, 1<<20)}})
	wantShape(t, []Node{{Name: "a", Out: []Var{{"x", 1}}, L: []Equation{{Kind: "set", Names: make([]string, 1<<20), E: num(1)}}}})
	wantShape(t, program(call("f", make([]Expr, 1<<20)...)))
}

func TestP4TextOnlyReads(t *testing.T) {
	s := head + "if f(1, -y) = 2 then 1 + 2 -> pre 3 else 4" + tail
	l, kept := mustRead(t, s), mustRead(t, s)
	if got, err := Text(l); got != s || err != nil || !reflect.DeepEqual(l, kept) {
		t.Errorf("%q, %v", got, err)
	}
	// What lies behind a list's length is not read.
	room := append(mustRead(t, s), Node{})
	if got, err := Text(room[:1]); got != s || err != nil {
		t.Errorf("%q, %v", got, err)
	}
}
