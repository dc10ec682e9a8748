package flat

import (
	"errors"
	"reflect"
	"strconv"
	"strings"
	"testing"

	"lustrum/api"
	"lustrum/tree"
)

func mustRead(t testing.TB, s string) []tree.Node {
	t.Helper()
	l, err := tree.Read(s)
	if err != nil {
		t.Fatalf("%q: %v", s, err)
	}
	return l
}

func mustMake(t testing.TB, s, node string) Program {
	t.Helper()
	p, err := Make(mustRead(t, s), node)
	if err != nil {
		t.Fatalf("%q, %s: %v", s, node, err)
	}
	return p
}

// wantLines holds the text of what is made of a node against lines.
func wantLines(t *testing.T, s, node string, lines ...string) {
	t.Helper()
	got, err := Text(mustMake(t, s, node))
	if want := strings.Join(lines, "\n") + "\n"; got != want || err != nil {
		t.Errorf("%s\n%s, %v\nwant\n%s", s, got, err, want)
	}
}

// wantNoMake holds that a node is refused with that error, and nothing else is answered.
func wantNoMake(t *testing.T, l []tree.Node, node string, want error) {
	t.Helper()
	p, err := Make(l, node)
	if err != want || !reflect.DeepEqual(p, Program{}) {
		t.Errorf("%s: %d flows, %#v, want %v", node, len(p.L), err, want)
	}
}

// ahead are nodes that others call.
const ahead = `
node one(a: int) returns (b: int); let b = a; tel
node two(a: int; b: bool) returns (c: int; d: bool); let d = b; c = a; tel
node none() returns (t: bool); let t = true; tel
node sees(p: bool) returns (q: bool); let assert p; q = not p; check q; tel
`

func TestP40FieldsAndNames(t *testing.T) {
	p := mustMake(t, "node n(i: bool; j: int) returns (o: int; r: bool); var v: int; let r = i; check r; v = j; o = -v -> 12; assert i; tel", "n")
	name := func(s string) tree.Expr { return tree.Expr{Op: "name", S: s} }
	want := Program{
		In:  []tree.Var{{Name: "i", Kind: api.Bool}, {Name: "j", Kind: api.Int}},
		Out: []string{"o", "r"},
		L: []Flow{
			{"r", api.Bool, name("i")},
			{"v", api.Int, name("j")},
			{"o", api.Int, tree.Expr{Op: "->", L: []tree.Expr{{Op: "neg", L: []tree.Expr{name("v")}}, {Op: "int", N: 12}}}},
		},
		Asserts: []tree.Expr{name("i")},
		Checks:  []tree.Expr{name("r")},
	}
	if !reflect.DeepEqual(p, want) {
		t.Errorf("%v, want %v", p, want)
	}
}

func TestP40Errors(t *testing.T) {
	good := mustRead(t, ahead)
	for _, node := range []string{"", "zz", "on", "onee", "One", "a", "0.one", "node"} {
		wantNoMake(t, good, node, api.ErrNone)
	}
	wantNoMake(t, nil, "", api.ErrNone)
	wantNoMake(t, []tree.Node{}, "a", api.ErrNone)
	// What types.Check tells comes ahead, wherever it is: also of a node that is not called, and if there is no such node.
	for _, c := range []struct {
		source string
		err    error
	}{
		{"node bad() returns (x: int); let x = true; tel", api.ErrType},
		{"node bad() returns (x: int); let x = zz; tel", api.ErrName},
		{"node bad() returns (x: int); let tel", api.ErrShape},
		{"node one() returns (x: int); let x = 1; tel", api.ErrName},
		{"node bad() returns (x: int); let x = bad(); tel", api.ErrName},
	} {
		for _, node := range []string{"one", "bad", "zz"} {
			p, err := Make(mustRead(t, ahead+c.source), node)
			f, ok := err.(*api.Fault)
			if !ok || f.At != 4 || f.Err != c.err || !reflect.DeepEqual(p, Program{}) {
				t.Errorf("%s, %s: %v, %#v", c.source, node, p, err)
			}
		}
	}
	spoilt := mustRead(t, ahead)
	spoilt[3].L[0].E.N = 1
	wantNoMake(t, spoilt, "one", api.ErrShape)
	wantNoMake(t, spoilt, "zz", api.ErrShape)
	wantNoMake(t, make([]tree.Node, 3), "", api.ErrShape)
}

// flows makes a program of 400 flows and some more.
func flows(more int) string {
	s := "node f() returns (o: int); var a: int; b: int; c: int; d: int; e: int; g: int; h: int; i: int; j: int;\nlet o = 1; a = 1; b = 1; c = 1; d = 1; e = 1; g = 1; h = 1; i = 1; j = 1; tel\n"
	s += "node main() returns (x: int); var y: int; "
	set := "let x = f()" + strings.Repeat(" + f()", 38) + "; y = x; "
	for i := range 8 + more {
		v := "v" + strconv.Itoa(i)
		s += v + ": int; "
		set += v + " = y; "
	}
	return strings.TrimSuffix(s, "; ") + ";\n" + set + "tel"
}

func TestP40MaxFlat(t *testing.T) {
	p := mustMake(t, flows(0), "main")
	if len(p.L) != api.MaxFlat || Check(p) != nil {
		t.Errorf("%d flows, %v", len(p.L), Check(p))
	}
	for _, more := range []int{1, 2, 10} {
		wantNoMake(t, mustRead(t, flows(more)), "main", api.ErrBound)
	}
	// Inputs of the node itself are no flows; those of a call are.
	s := flows(0)
	with := strings.Replace(s, "main()", "main(i: int; j: bool)", 1)
	if p := mustMake(t, with, "main"); len(p.L) != api.MaxFlat || len(p.In) != 2 {
		t.Errorf("%d flows, %d inputs", len(p.L), len(p.In))
	}
	called := strings.Replace(strings.Replace(s, "node f()", "node f(k: int)", 1), "f() + ", "f(2) + ", 1)
	called = strings.ReplaceAll(called, "f()", "f(1)")
	wantNoMake(t, mustRead(t, called), "main", api.ErrBound)
	// Of a node that is not called nothing counts.
	if p := mustMake(t, flows(10), "f"); len(p.L) != 10 {
		t.Errorf("%d flows", len(p.L))
	}
}

// ones is a sum of so many ones: twice as many parts, less one.
func ones(n int) string { return "1" + strings.Repeat(" + 1", n-1) }

// parts makes a program of 3999 parts of terms, and then some equation.
func parts(equation string) string {
	return "node s(b: int; c: bool) returns (a: bool); let a = c; tel\n" +
		"node f() returns (o: int); let o = " + ones(50) + "; tel\n" +
		"node main(i: bool) returns (x: int); var y: int; z: bool; let x = f()" + strings.Repeat(" + f()", 38) + "; y = " + ones(31) + "; " + equation + " tel"
}

func TestP40MaxTerms(t *testing.T) {
	for _, c := range []struct {
		equation string
		parts    int
	}{
		{"z = i;", 4000},
		{"z = true;", 4000},
		{"z = not i;", 4001},
		{"z = i; check i;", 4001},
		{"z = i; assert false;", 4001},
		{"z = i; assert s(1, i);", 4005},
		{"z = s(1, i);", 4004},
		{"z = s(-1, i);", 4005},
	} {
		l := mustRead(t, parts(c.equation))
		if c.parts > api.MaxTerms {
			wantNoMake(t, l, "main", api.ErrBound)
		} else if p, err := Make(l, "main"); err != nil || sizeOf(p) != c.parts || Check(p) != nil {
			t.Errorf("%s: %v, %d parts, %v", c.equation, err, sizeOf(p), Check(p))
		}
		// A name less in y's term makes room for two parts more.
		l = mustRead(t, strings.Replace(parts(c.equation), "y = "+ones(31), "y = "+ones(30), 1))
		if c.parts-2 > api.MaxTerms {
			wantNoMake(t, l, "main", api.ErrBound)
		} else if p, err := Make(l, "main"); err != nil || sizeOf(p) != c.parts-2 {
			t.Errorf("%s: %v, %d parts", c.equation, err, sizeOf(p))
		}
	}
}

// sizeOf a program: its parts of terms.
func sizeOf(p Program) int {
	var size func(e tree.Expr) int
	size = func(e tree.Expr) int {
		n := 1
		for _, part := range e.L {
			n += size(part)
		}
		return n
	}
	n := 0
	for _, f := range p.L {
		n += size(f.E)
	}
	for _, e := range p.Asserts {
		n += size(e)
	}
	for _, e := range p.Checks {
		n += size(e)
	}
	return n
}

// TestP1MakeEnds: calls of calls that are more than anybody can go through.
func TestP1MakeEnds(t *testing.T) {
	for _, equation := range []string{"x = a0();", "x = a0() + a0();", "x = a0(); check a0() > a0();", "x = a0(); assert a0() > a0();"} {
		for _, last := range []string{"let ", "let assert true; check false; "} {
			s := "node a0() returns (x: int); " + last + "x = 1; tel\n"
			for i := 1; i < api.MaxNodes; i++ {
				many := strings.ReplaceAll(equation, "a0()", "a"+strconv.Itoa(i-1)+"()"+strings.Repeat(" + a"+strconv.Itoa(i-1)+"()", 10))
				s += "node a" + strconv.Itoa(i) + "() returns (x: int); let " + many + " tel\n"
			}
			wantNoMake(t, mustRead(t, s), "a11", api.ErrBound)
		}
	}
}

func TestP41Inputs(t *testing.T) {
	wantLines(t, ahead, "two", "in a int", "in b bool", "d bool = b", "c int = a", "out c", "out d")
	wantLines(t, ahead, "none", "t bool = true", "out t")
	wantLines(t, ahead, "sees", "in p bool", "q bool = not p", "out q", "assert p", "check q")
}

func TestP41OneCall(t *testing.T) {
	wantLines(t, ahead+"node m(i: int) returns (o: int); let o = one(i + 1); tel", "m",
		"in i int", "0.a int = i + 1", "0.b int = 0.a", "o int = 0.b", "out o")
	wantLines(t, ahead+"node m() returns (o: bool); let o = none(); tel", "m",
		"0.t bool = true", "o bool = 0.t", "out o")
	wantLines(t, ahead+"node m(i: int) returns (o: int; r: bool); let (o, r) = two(i, i > 1); tel", "m",
		"in i int", "0.a int = i", "0.b bool = i > 1", "0.d bool = 0.b", "0.c int = 0.a", "o int = 0.c", "r bool = 0.d", "out o", "out r")
	// The names in the order in which the equation has them.
	wantLines(t, ahead+"node m() returns (o: int; r: bool); var u: int; v: bool; let (u, v) = two(o, r); (o, r) = two(1, true); tel", "m",
		"0.a int = o", "0.b bool = r", "0.d bool = 0.b", "0.c int = 0.a", "u int = 0.c", "v bool = 0.d",
		"1.a int = 1", "1.b bool = true", "1.d bool = 1.b", "1.c int = 1.a", "o int = 1.c", "r bool = 1.d", "out o", "out r")
}

func TestP41InnermostAndLeft(t *testing.T) {
	wantLines(t, ahead+"node m(i: int) returns (o: int); let o = one(one(i) - one(2)) * one(3); tel", "m",
		"in i int",
		"0.a int = i", "0.b int = 0.a",
		"1.a int = 2", "1.b int = 1.a",
		"2.a int = 0.b - 1.b", "2.b int = 2.a",
		"3.a int = 3", "3.b int = 3.a",
		"o int = 2.b * 3.b", "out o")
	wantLines(t, ahead+"node m(i: int) returns (o: int); let o = if none() then one(i) else pre one(one(1)); tel", "m",
		"in i int",
		"0.t bool = true",
		"1.a int = i", "1.b int = 1.a",
		"2.a int = 1", "2.b int = 2.a",
		"3.a int = 2.b", "3.b int = 3.a",
		"o int = if 0.t then 1.b else pre 3.b", "out o")
	wantLines(t, ahead+"node m(i: int) returns (o: int; r: bool); let (o, r) = two(one(i), sees(none())); tel", "m",
		"in i int",
		"0.a int = i", "0.b int = 0.a",
		"1.t bool = true",
		"2.p bool = 1.t", "2.q bool = not 2.p",
		"3.a int = 0.b", "3.b bool = 2.q", "3.d bool = 3.b", "3.c int = 3.a",
		"o int = 3.c", "r bool = 3.d", "out o", "out r", "assert 2.p", "check 2.q")
}

func TestP41CallsWithinCalls(t *testing.T) {
	s := ahead + "node mid(a: int) returns (b: int); var c: int; let c = one(a); b = one(c); tel node m(i: int) returns (o: int); let o = mid(1) + one(mid(i)); tel"
	wantLines(t, s, "m",
		"in i int",
		"0.a int = 1",
		"1.a int = 0.a", "1.b int = 1.a", "0.c int = 1.b",
		"2.a int = 0.c", "2.b int = 2.a", "0.b int = 2.b",
		"3.a int = i",
		"4.a int = 3.a", "4.b int = 4.a", "3.c int = 4.b",
		"5.a int = 3.c", "5.b int = 5.a", "3.b int = 5.b",
		"6.a int = 3.b", "6.b int = 6.a",
		"o int = 0.b + 6.b", "out o")
	// Numbers go on over all equations, and begin again for another program.
	wantLines(t, s, "mid", "in a int", "0.a int = a", "0.b int = 0.a", "c int = 0.b", "1.a int = c", "1.b int = 1.a", "b int = 1.b", "out b")
}

func TestP41AssertsAndChecks(t *testing.T) {
	wantLines(t, ahead+"node m(i: bool) returns (o: bool); let check i; assert sees(i); o = sees(true); check sees(false) => o; assert o; tel", "m",
		"in i bool",
		"0.p bool = i", "0.q bool = not 0.p",
		"1.p bool = true", "1.q bool = not 1.p", "o bool = 1.q",
		"2.p bool = false", "2.q bool = not 2.p",
		"out o",
		"assert 0.p", "assert 0.q", "assert 1.p", "assert 2.p", "assert o",
		"check i", "check 0.q", "check 1.q", "check 2.q", "check 2.q => o")
}

func TestP41ManyNumbers(t *testing.T) {
	p := mustMake(t, ahead+"node m() returns (o: bool); let o = none()"+strings.Repeat(" and none()", 120)+"; tel", "m")
	for i, f := range p.L[:121] {
		if f.Name != strconv.Itoa(i)+".t" {
			t.Errorf("%d: %s", i, f.Name)
		}
	}
	if len(p.L) != 122 || p.L[121].Name != "o" {
		t.Errorf("%d flows", len(p.L))
	}
}

// TestP42NotAskedByMake: Make has no bound for inputs, but Check has.
func TestP42NotAskedByMake(t *testing.T) {
	for n := api.MaxParts - 1; n <= api.MaxParts+1; n++ {
		s := "node m(i: int"
		for i := range n - 1 {
			s += "; i" + strconv.Itoa(i) + ": bool"
		}
		p := mustMake(t, s+") returns (o: int); let o = i; tel", "m")
		var want error
		if n > api.MaxParts {
			want = api.ErrBound
		}
		if err := Check(p); len(p.In) != n || err != want {
			t.Errorf("%d inputs: %d, %v", n, len(p.In), err)
		}
	}
}

// shared goes through each place in the lists of a program, up to their capacity, and tells those that two lists have.
func shared(p Program) []string {
	var found []string
	seen := map[any]int{}
	see := func(what string, place any) {
		if seen[place]++; seen[place] > 1 {
			found = append(found, what)
		}
	}
	var term func(l []tree.Expr)
	term = func(l []tree.Expr) {
		for i, e := range l[:cap(l)] {
			see("term", &l[:cap(l)][i])
			if i < len(l) {
				term(e.L)
			}
		}
	}
	term(p.Asserts)
	term(p.Checks)
	for i := range p.L[:cap(p.L)] {
		see("flow", &p.L[:cap(p.L)][i])
		term(p.L[:cap(p.L)][i].E.L)
	}
	for i := range p.In[:cap(p.In)] {
		see("in", &p.In[:cap(p.In)][i])
	}
	for i := range p.Out[:cap(p.Out)] {
		see("out", &p.Out[:cap(p.Out)][i])
	}
	return found
}

// scribble over all lists of a program.
func scribble(p Program) {
	var term func(l []tree.Expr)
	term = func(l []tree.Expr) {
		for i := range l {
			term(l[i].L)
			l[i] = tree.Expr{Op: "scribble"}
		}
	}
	term(p.Asserts)
	term(p.Checks)
	for i := range p.L {
		term(p.L[i].E.L)
		p.L[i] = Flow{Name: "scribble"}
	}
	for i := range p.In {
		p.In[i].Name = "scribble"
	}
	for i := range p.Out {
		p.Out[i] = "scribble"
	}
}

func TestP4MakeNewMemory(t *testing.T) {
	s := ahead + "node m(i: bool; j: int) returns (o: bool; r: int); let assert i; check sees(i) or i; (r, o) = two(one(j + 1), sees(pre i)); tel"
	l, same := mustRead(t, s), mustRead(t, s)
	p, err := Make(l, "m")
	if err != nil || !reflect.DeepEqual(l, same) {
		t.Fatal(err, l)
	}
	if found := shared(p); found != nil {
		t.Errorf("shared: %v", found)
	}
	scribble(p)
	if !reflect.DeepEqual(l, same) {
		t.Errorf("changed to %v", l)
	}
	again, err := Make(l, "m")
	if err != nil || !reflect.DeepEqual(again, mustMake(t, s, "m")) {
		t.Errorf("%v, %v", again, err)
	}
	for i := range l {
		for k := range l[i].In {
			l[i].In[k] = tree.Var{}
		}
		l[i].L[0].E = tree.Expr{}
	}
	if !reflect.DeepEqual(again, mustMake(t, s, "m")) {
		t.Errorf("a later change shows: %v", again)
	}
}

// TestP3BehindLists: what lies behind a list's length is neither read nor written.
func TestP3BehindLists(t *testing.T) {
	l := mustRead(t, ahead+"node m(i: int; j: int) returns (o: int); let o = i; assert zz; tel")
	l[4].In, l[4].L = l[4].In[:1], l[4].L[:1]
	p, err := Make(l[:5], "m")
	if err != nil || len(p.In) != 1 || len(p.L) != 1 || p.Asserts != nil {
		t.Errorf("%v, %v", p, err)
	}
	if in := l[4].In[:2]; in[1].Name != "j" || l[4].L[:2][1].Kind != "assert" {
		t.Error("written behind a list")
	}
	wantNoMake(t, l[:4], "m", api.ErrNone)
}

// TestOtherPanics: only what a maker throws is taken for an error.
func TestOtherPanics(t *testing.T) {
	for _, other := range []any{"other", errors.New("other")} {
		func() {
			defer func() {
				if p := recover(); p != other {
					t.Errorf("%v", p)
				}
			}()
			caught(func() { panic(other) })
			t.Error("a panic was swallowed")
		}()
	}
}
