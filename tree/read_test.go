package tree

import (
	"reflect"
	"strconv"
	"strings"
	"testing"

	"lustrum/api"
)

// head and tail stand around a term that is read.
const (
	head = "node a(x: bool; y: int) returns (z: int);\nlet\n  z = "
	tail = ";\ntel\n"
)

func in(l ...Expr) []Expr { return l }

func op(sign string, l ...Expr) Expr { return Expr{Op: sign, L: l} }

func num(n int) Expr { return Expr{Op: "int", N: n} }

func named(s string) Expr { return Expr{Op: "name", S: s} }

func call(s string, l ...Expr) Expr { return Expr{Op: "call", S: s, L: l} }

func mustRead(t *testing.T, s string) []Node {
	t.Helper()
	l, err := Read(s)
	if err != nil {
		t.Fatalf("%q: %#v", s, err)
	}
	return l
}

func mustTerm(t *testing.T, s string) Expr {
	t.Helper()
	return mustRead(t, head+s+tail)[0].L[0].E
}

// wantFault holds that a program is refused with that error at that byte, and that nothing else is answered.
func wantFault(t *testing.T, s string, at int, want error) {
	t.Helper()
	l, err := Read(s)
	f, ok := err.(*api.Fault)
	if !ok || f.Err != want || f.At != at || len(l) != 0 {
		t.Errorf("%q: %v, %#v, want %v at %d", s, l, err, want, at)
	}
}

func wantTermFault(t *testing.T, s string, at int, want error) {
	t.Helper()
	wantFault(t, head+s+tail, len(head)+at, want)
}

func TestP20Terms(t *testing.T) {
	x, y := named("x"), named("y")
	for s, want := range map[string]Expr{
		"0":                     num(0),
		"127":                   num(127),
		"true":                  op("true"),
		"false":                 op("false"),
		"x":                     x,
		"(x)":                   x,
		"((( x )))":             x,
		"not x":                 op("not", x),
		"-1":                    op("neg", num(1)),
		"- 1":                   op("neg", num(1)),
		"pre x":                 op("pre", x),
		"-pre -y":               op("neg", op("pre", op("neg", y))),
		"if x then 1 else 2":    op("if", x, num(1), num(2)),
		"f()":                   call("f"),
		"f(x)":                  call("f", x),
		"f (x, y ,1)":           call("f", x, y, num(1)),
		"f(if x then y else 0)": call("f", op("if", x, y, num(0))),
		"f(0 -> 1, g(), not x)": call("f", op("->", num(0), num(1)), call("g"), op("not", x)),
		"-f(y)":                 op("neg", call("f", y)),
		"1-1":                   op("-", num(1), num(1)),
		"1--1\n-y":              op("-", num(1), y),
		"1 - -y":                op("-", num(1), op("neg", y)),
		"(1) - (-(y))":          op("-", num(1), op("neg", y)),
		"x->y":                  op("->", x, y),
		"if if x then x else x then if x then 1 else 2 else if x then 3 else 4": op("if", op("if", x, x, x), op("if", x, num(1), num(2)), op("if", x, num(3), num(4))),
	} {
		if got := mustTerm(t, s); !reflect.DeepEqual(got, want) {
			t.Errorf("%q: %v, want %v", s, got, want)
		}
	}
}

// TestP20Fields: other fields are zero, and each list is as long as its operator says.
func TestP20Fields(t *testing.T) {
	for _, o := range binaries {
		want := Expr{Op: o, L: in(named("x"), num(7))}
		if got := mustTerm(t, "x "+o+" 7"); !reflect.DeepEqual(got, want) {
			t.Errorf("%s: %v", o, got)
		}
	}
	for n := range 128 {
		if got := mustTerm(t, strconv.Itoa(n)); !reflect.DeepEqual(got, num(n)) {
			t.Errorf("%d: %v", n, got)
		}
	}
	wantTermFault(t, "128", 0, api.ErrText)
}

func TestP21Nodes(t *testing.T) {
	s := `-- two nodes
node one(a: bool; b: int; c: bool) returns (d: int; e: bool);
var f: int; g: bool;
let
  d = b;
  (e, f, g) = h(1);
  (p, p) = x;
  assert a;
  check e;
tel
node two() returns (o: int); let tel`
	want := []Node{{
		Name: "one",
		In:   []Var{{"a", api.Bool}, {"b", api.Int}, {"c", api.Bool}},
		Out:  []Var{{"d", api.Int}, {"e", api.Bool}},
		Own:  []Var{{"f", api.Int}, {"g", api.Bool}},
		L: []Equation{
			{"set", []string{"d"}, named("b")},
			{"set", []string{"e", "f", "g"}, call("h", num(1))},
			{"set", []string{"p", "p"}, named("x")},
			{"assert", nil, named("a")},
			{"check", nil, named("e")},
		},
	}, {Name: "two", Out: []Var{{"o", api.Int}}}}
	if got := mustRead(t, s); !alike(got, want) {
		t.Errorf("%v, want %v", got, want)
	}
}

// TestP22NoNodes: a program of no nodes is one.
func TestP22NoNodes(t *testing.T) {
	for _, s := range []string{"", " \n", "-- nothing", "-- node a\n"} {
		if l := mustRead(t, s); len(l) != 0 {
			t.Errorf("%q: %v", s, l)
		}
	}
}

// tightness of operators with two parts, as P22 orders them.
func tightness(o string) int {
	for i, l := range []string{"-> fby", "or xor", "and", "= <> < <= > >= =>", "+ -", "* / mod"} {
		if strings.Contains(" "+l+" ", " "+o+" ") {
			return i
		}
	}
	return -1
}

func TestP22Pairs(t *testing.T) {
	for _, p := range binaries {
		for _, q := range binaries {
			s := "1 " + p + " 2 " + q + " 3"
			a, b := tightness(p), tightness(q)
			if a == b && a == tightness("=") {
				wantTermFault(t, s, len("1 "+p+" 2 "), api.ErrText)
				continue
			}
			left := op(q, op(p, num(1), num(2)), num(3))
			right := op(p, num(1), op(q, num(2), num(3)))
			want := left
			if a < b || a == b && a == tightness("->") {
				want = right
			}
			if got := mustTerm(t, s); !reflect.DeepEqual(got, want) {
				t.Errorf("%q: %v, want %v", s, got, want)
			}
		}
	}
}

func TestP22Prefixes(t *testing.T) {
	for _, o := range binaries {
		two := op(o, num(1), num(2))
		not := op(o, op("not", num(1)), num(2))
		if tightness(o) >= tightness("=") {
			not = op("not", two)
			wantTermFault(t, "1 "+o+" not 2", len("1 "+o+" "), api.ErrText)
		} else if got := mustTerm(t, "1 "+o+" not 2"); !reflect.DeepEqual(got, op(o, num(1), op("not", num(2)))) {
			t.Errorf("%s: %v", o, got)
		}
		for s, want := range map[string]Expr{
			"not 1 " + o + " 2":   not,
			"- 1 " + o + " 2":     op(o, op("neg", num(1)), num(2)),
			"pre 1 " + o + " 2":   op(o, op("pre", num(1)), num(2)),
			"1 " + o + " -2":      op(o, num(1), op("neg", num(2))),
			"1 " + o + " pre 2":   op(o, num(1), op("pre", num(2))),
			"not (1 " + o + " 2)": op("not", two),
			"-(1 " + o + " 2)":    op("neg", two),
			"pre(1 " + o + " 2)":  op("pre", two),
		} {
			if got := mustTerm(t, s); !reflect.DeepEqual(got, want) {
				t.Errorf("%q: %v, want %v", s, got, want)
			}
		}
	}
}

func TestP22If(t *testing.T) {
	choice := op("if", named("x"), num(1), num(2))
	for _, o := range binaries {
		left := "if x then 1 else 2 " + o + " 3"
		if got, want := mustTerm(t, left), op("if", named("x"), num(1), op(o, num(2), num(3))); !reflect.DeepEqual(got, want) {
			t.Errorf("%q: %v", left, got)
		}
		right := "3 " + o + " if x then 1 else 2"
		if tightness(o) != tightness("->") {
			wantTermFault(t, right, len("3 "+o+" "), api.ErrText)
		} else if got := mustTerm(t, right); !reflect.DeepEqual(got, op(o, num(3), choice)) {
			t.Errorf("%q: %v", right, got)
		}
	}
	for _, s := range []string{"not ", "- ", "pre "} {
		wantTermFault(t, s+"if x then 1 else 2", len(s), api.ErrText)
	}
}

func TestP23LexErrors(t *testing.T) {
	for s, at := range map[string]int{"128": 0, "node a\t": 6, "x [": 2, ") ) A": 4, head + "1 +" + tail + "_": len(head) + 3 + len(tail)} {
		wantFault(t, s, at, api.ErrText)
	}
	for _, s := range []string{strings.Repeat(" ", api.MaxSource+1), strings.Repeat("[", api.MaxSource+1)} {
		if l, err := Read(s); err != api.ErrBound || len(l) != 0 {
			t.Errorf("%v, %v", l, err)
		}
	}
	mustRead(t, strings.Repeat(" ", api.MaxSource))
}

func TestP23Places(t *testing.T) {
	for s, at := range map[string]int{
		"1":                                     0,
		"tel":                                   0,
		"node if":                               5,
		"node 1":                                5,
		"node a returns":                        7,
		"node a(":                               7,
		"node a(x":                              8,
		"node a(x bool)":                        9,
		"node a(x: y)":                          10,
		"node a(x: true)":                       10,
		"node a(x: 1)":                          10,
		"node a(x: bool":                        14,
		"node a(x: bool, y: int)":               14,
		"node a(x, y: int)":                     8,
		"node a(; x: int)":                      7,
		"node a() return (":                     9,
		"node a() returns x":                    17,
		"node a() returns (x: int;)":            25,
		"node a() returns (x: int)":             25,
		"node a() returns (x: int) let":         26,
		"node a() returns (x: int);":            26,
		"node a() returns (x: int); ;":          27,
		"node a() returns (x: int); var ;":      27 + 4,
		"node a() returns (x: int); var y: int": 27 + 10,
		"node a() returns (x: int); var y: int let":       27 + 11,
		"node a() returns (x: int); var y: int; ;":        27 + 12,
		"node a() returns (x: int); var y: int; var":      27 + 12,
		"node a() returns (x: int); var y: int; z let":    27 + 14,
		"node a() returns (x: int); let":                  30,
		"node a() returns (x: int); let tel;":             34,
		"node a() returns (x: int); let tel tel":          35,
		"node a() returns (x: int); let tel x":            35,
		"node a() returns (x: int); let node":             31,
		"node a() returns (x: int); let ; tel":            31,
		"node a() returns (x: int); let 1 = x; tel":       31,
		"node a() returns (x: int); let x 1; tel":         33,
		"node a() returns (x: int); let x : 1; tel":       33,
		"node a() returns (x: int); let x = 1 tel":        37,
		"node a() returns (x: int); let x = ; tel":        35,
		"node a() returns (x: int); let x, y = 1; tel":    32,
		"node a() returns (x: int); let () = 1; tel":      32,
		"node a() returns (x: int); let (x) = 1; tel":     33,
		"node a() returns (x: int); let (x,) = 1; tel":    34,
		"node a() returns (x: int); let (x, y = 1; tel":   37,
		"node a() returns (x: int); let (x, 1) = 1; tel":  35,
		"node a() returns (x: int); let ((x, y)) = 1;":    32,
		"node a() returns (x: int); let assert ; tel":     38,
		"node a() returns (x: int); let assert x = 1 = 2": 44,
		"node a() returns (x: int); let check x; y tel":   42,
		"node a() returns (x: int); let check; tel":       36,
	} {
		wantFault(t, s, at, api.ErrText)
	}
}

func TestP23TermPlaces(t *testing.T) {
	for s, at := range map[string]int{
		"":                    0,
		")":                   0,
		"then":                0,
		"()":                  1,
		"(1":                  2,
		"(1 2)":               3,
		"(1, 2)":              2,
		"1)":                  1,
		"x y":                 2,
		"x not":               2,
		"1(2)":                1,
		"(f)(1)":              3,
		"true(1)":             4,
		"f(1)(2)":             4,
		"f(,1)":               2,
		"f(1 2)":              4,
		"f(1;":                3,
		"+1":                  0,
		"1 + + 1":             4,
		"1 + not x":           4,
		"1 mod mod 2":         6,
		"1 = 2 => x":          6,
		"x => x => x":         7,
		"not 1 = 2 = 3":       10,
		"1 + 2 = 3 * 4 <> 5":  14,
		"x and 1 < 2 and < 3": 16,
		"0 -> -> 1":           5,
		"0 -> fby 1":          5,
		"-> 1":                0,
		"if":                  2,
		"if x else 1":         5,
		"if x then 1 then 2":  12,
		"if x then 1 else":    16,
		"x then 1":            2,
		"1 + if x then 1":     4,
		"not if x then 1":     4,
		"bool":                0,
		"pre":                 3,
		"pre pre":             7,
		"pre not x":           4,
		"- not x":             2,
		"x xor":               5,
		"x : int":             2,
		"x - > y":             4,
	} {
		wantTermFault(t, s, at, api.ErrText)
	}
}

const oneNode = "node a() returns (x: bool);\nlet\ntel\n"

func TestP23Nodes(t *testing.T) {
	full := strings.Repeat(oneNode, api.MaxNodes)
	if l := mustRead(t, full); len(l) != api.MaxNodes {
		t.Error(len(l))
	}
	for _, s := range []string{oneNode, "node", "node 1", "node node"} {
		wantFault(t, full+s, len(full), api.ErrBound)
	}
	// What is no node is not one too many.
	wantFault(t, full+"x", len(full), api.ErrText)
	wantFault(t, full+"tel node", len(full), api.ErrText)
	// A fault ahead of the bound is told first; lex's one wherever it is.
	wantFault(t, "node a x "+full+oneNode, 7, api.ErrText)
	wantFault(t, full+oneNode+"[", len(full+oneNode), api.ErrText)
}

// nest is a term that has another one inside it, one deeper: what stands ahead of the inner one, the place in that of the token that counts, and what stands behind.
type nest struct {
	open  string
	at    int
	close string
}

var nests = []nest{
	{"(", 0, ")"},
	{"if ", 0, " then 1 else 2"},
	{"if x then ", 0, " else 2"},
	{"if x then 1 else ", 0, ""},
	{"1 -> ", 2, ""},
	{"1 fby ", 2, ""},
	{"f(", 1, ")"},
	{"f(1, ", 1, ")"},
}

// prefixes can stand in each other, and in brackets.
var prefixes = []nest{{"not ", 0, ""}, {"-", 0, " "}, {"- ", 0, ""}, {"pre ", 0, ""}}

func (n nest) times(k int, inner string) string {
	return strings.Repeat(n.open, k) + inner + strings.Repeat(n.close, k)
}

func TestP23Deep(t *testing.T) {
	for _, n := range append(prefixes, nests...) {
		if n.open == "-" { // two of them are a comment
			continue
		}
		mustTerm(t, n.times(api.MaxDeep, "1"))
		wantTermFault(t, n.times(api.MaxDeep+1, "1"), api.MaxDeep*len(n.open)+n.at, api.ErrBound)
		wantTermFault(t, n.times(api.MaxDeep+30, "1"), api.MaxDeep*len(n.open)+n.at, api.ErrBound)
		// What comes behind the token that is one too many does not count, what comes ahead does.
		wantTermFault(t, strings.Repeat(n.open, api.MaxDeep+1), api.MaxDeep*len(n.open)+n.at, api.ErrBound)
		wantTermFault(t, strings.Repeat(n.open, api.MaxDeep)+";", api.MaxDeep*len(n.open), api.ErrText)
	}
}

// TestP23DeepMixed: each kind counts inside each other one.
func TestP23DeepMixed(t *testing.T) {
	for _, n := range nests {
		for _, m := range append(prefixes, nests...) {
			for k := range api.MaxDeep {
				inner := m.open + "1" + m.close
				mustTerm(t, n.times(api.MaxDeep-1, inner))
				wantTermFault(t, n.times(api.MaxDeep, inner), api.MaxDeep*len(n.open)+m.at, api.ErrBound)
				mustTerm(t, n.times(k, nest{"(", 0, ")"}.times(api.MaxDeep-k, "1")))
			}
		}
	}
}

// TestP23DeepBeside: what stands beside, not inside, does not count.
func TestP23DeepBeside(t *testing.T) {
	full := nest{"(", 0, ")"}.times(api.MaxDeep, "1")
	less := nest{"(", 0, ")"}.times(api.MaxDeep-1, "1")
	for _, s := range []string{
		full + " + " + full,
		full + " -> 1",
		full + " fby " + less,
		"f(" + less + ", " + less + ")",
		"if " + less + " then " + less + " else " + less,
		strings.Repeat("1 + ", 500) + full,
		"not (x) and " + strings.Repeat("not x and ", 50) + full,
		strings.Repeat("-1 - ", 30) + full,
		full + ";\n z = " + full + ";\n assert " + full + ";\n (x, y) = " + full,
	} {
		mustTerm(t, s)
	}
	wantTermFault(t, "1 fby "+full, len("1 fby ")+api.MaxDeep-1, api.ErrBound)
	wantTermFault(t, "("+full+" -> 1)", api.MaxDeep, api.ErrBound)
}

// TestP23ManyBytes: programs as long as can be are read.
func TestP23ManyBytes(t *testing.T) {
	room := api.MaxSource - len(head+tail)
	s := strings.Repeat("1+", room/2-1) + "1"
	e, n := mustTerm(t, s), 0
	for e.Op == "+" {
		e, n = e.L[0], n+1
	}
	if n != room/2-1 {
		t.Error(n)
	}
	wantTermFault(t, strings.Repeat("1+", room/2-1), room/2*2-2, api.ErrText)
}

func TestP4NewMemory(t *testing.T) {
	s := head + "if f(1, -y) = 2 then 1 + 2 -> pre 3 else 4" + tail + oneNode
	first := mustRead(t, s)
	kept := mustRead(t, s)
	first[0].Name = "q"
	first[0].In[0].Name = "q"
	first[0].L[0].Names[0] = "q"
	first[0].L[0].E.L[0].L[0].L[1].L[0].S = "q"
	if !reflect.DeepEqual(mustRead(t, s), kept) {
		t.Error("what is written into an answer shows in another one")
	}
}

// TestP4NoSharedLists: each place of each list of an answer, also those behind its length, is in that one alone.
func TestP4NoSharedLists(t *testing.T) {
	seen := map[any]bool{}
	mark := func(p any) {
		if seen[p] {
			t.Errorf("%v is in two lists", p)
		}
		seen[p] = true
	}
	var term func(e *Expr)
	term = func(e *Expr) {
		all := e.L[:cap(e.L)]
		for i := range all {
			mark(&all[i])
			term(&all[i])
		}
	}
	s := "node a(x: int; y: int; z: int) returns (b: int; c: int; d: int); var e: int; f: int; g: int; let (b, c, d) = f(1, 2, g(3), -4 + 5); assert x < y; check z; tel "
	l := mustRead(t, strings.Repeat(s, 3))
	for i := range l {
		for _, v := range [][]Var{l[i].In, l[i].Out, l[i].Own} {
			for j := range v[:cap(v)] {
				mark(&v[:cap(v)][j])
			}
		}
		for j := range l[i].L {
			mark(&l[i].L[j])
			for k := range l[i].L[j].Names {
				mark(&l[i].L[j].Names[k])
			}
			term(&l[i].L[j].E)
		}
	}
}

func TestP2SameAnswer(t *testing.T) {
	s := head + "f(x -> 1, -y)" + tail
	first := mustRead(t, s)
	wantTermFault(t, strings.Repeat("(", 15), 15, api.ErrText)
	if !reflect.DeepEqual(mustRead(t, s), first) {
		t.Error("another answer")
	}
}
