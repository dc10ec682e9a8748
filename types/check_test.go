package types

import (
	"errors"
	"reflect"
	"strconv"
	"strings"
	"testing"

	"lustrum/api"
	"lustrum/tree"
)

// ahead are nodes that others call: one of one value, one of two, one of no inputs.
const ahead = `
node one(a: int) returns (b: int); let b = a; tel
node two(a: int; b: bool) returns (c: int; d: bool); let c = a; d = b; tel
node none() returns (t: bool); let t = true; tel
`

// inside wraps equations into a node, number 3, with names of both types.
func inside(equations string) string {
	return ahead + "node main(i: int; j: bool) returns (x: int; y: bool);\nvar u: int; v: bool;\nlet " + equations + " tel\n"
}

// rest sets all that must be set.
const rest = "x = 1; y = true; u = 1; v = true; "

func mustRead(t testing.TB, s string) []tree.Node {
	t.Helper()
	l, err := tree.Read(s)
	if err != nil {
		t.Fatalf("%q: %v", s, err)
	}
	return l
}

// wantCheck holds that a program is right (want nil), or that it is refused with that error at that node.
func wantCheck(t *testing.T, s string, at int, want error) {
	t.Helper()
	err := Check(mustRead(t, s))
	if want == nil {
		if err != nil {
			t.Errorf("%q: %v", s, err)
		}
		return
	}
	f, ok := err.(*api.Fault)
	if !ok || f.Err != want || f.At != at || !errors.Is(err, want) {
		t.Errorf("%q: %#v, want %v at %d", s, err, want, at)
	}
}

func TestP30Right(t *testing.T) {
	wantCheck(t, "", 0, nil)
	wantCheck(t, ahead, 0, nil)
	for _, s := range []string{
		rest,
		"x = 1; (u, y) = two(x, y); v = none();",
		"(u, v) = two(i, j); (x, y) = two(one(u), none());",
		"check j; " + rest + "assert i < 3; check x = u;",
		"v = y; y = v; u = x; x = u;", // a cycle is nothing that types see
		"x = pre x; y = pre y; u = pre u; v = not pre v;",
		"x = one(x); y = true; u = one(one(u)); v = none();",
	} {
		wantCheck(t, inside(s), 0, nil)
	}
	// Names of nodes, and of other nodes' flows, are no names here: they may be taken.
	wantCheck(t, "node a(b: int) returns (a: int); let a = b; tel node b(a: int) returns (c: int); var b: int; let c = a(b); b = a; tel", 0, nil)
	if Check(nil) != nil || Check([]tree.Node{}) != nil {
		t.Error("a program of no nodes is right")
	}
}

func TestP30TextFirst(t *testing.T) {
	good := mustRead(t, inside(rest))
	for _, spoil := range []func(l []tree.Node){
		func(l []tree.Node) { l[0].Name = "" },
		func(l []tree.Node) { l[3].Name = "node" },
		func(l []tree.Node) { l[3].Out = nil },
		func(l []tree.Node) { l[3].In[0].Kind = 3 },
		func(l []tree.Node) { l[3].In[0].Name = "a b" },
		func(l []tree.Node) { l[3].L[0].Kind = "let" },
		func(l []tree.Node) { l[3].L[0].Names = nil },
		func(l []tree.Node) { l[3].L[0].E = tree.Expr{} },
		func(l []tree.Node) { l[3].L[0].E = tree.Expr{Op: "int", N: 128} },
		func(l []tree.Node) { l[3].L[0].E = tree.Expr{Op: "+", L: []tree.Expr{{Op: "int"}}} },
		func(l []tree.Node) { l[3].L[0].E = tree.Expr{Op: "name", S: "a", N: 1} },
	} {
		l := mustRead(t, inside(rest))
		spoil(l)
		l[0].L[0].E = tree.Expr{Op: "true"} // a fault that would come at the first node
		if err := Check(l); err != api.ErrShape {
			t.Errorf("%v: %#v, want bare %v", l[3], err, api.ErrShape)
		}
	}
	if err := Check(good); err != nil {
		t.Error(err)
	}
	var many []tree.Node
	for i := range api.MaxNodes + 1 {
		n := mustRead(t, "node a() returns (b: int); let b = 1; tel")[0]
		n.Name += strconv.Itoa(i)
		many = append(many, n)
	}
	if err := Check(many[:api.MaxNodes]); err != nil {
		t.Error(err)
	}
	if err := Check(many); err != api.ErrShape {
		t.Errorf("%#v", err)
	}
}

func TestP30NamesOfNodes(t *testing.T) {
	tail := "(a: int) returns (b: int); let b = a; tel "
	wantCheck(t, "node f"+tail+"node g"+tail+"node f"+tail, 2, api.ErrName)
	wantCheck(t, "node f"+tail+"node f"+tail+"node f"+tail, 1, api.ErrName)
	// A name that only begins alike is another one.
	wantCheck(t, "node f"+tail+"node f1"+tail+"node ff"+tail, 0, nil)
	// Ahead of all else of the node; but behind what is wrong with a node ahead.
	wantCheck(t, "node f"+tail+"node f(a: int; a: int) returns (b: int); let tel", 1, api.ErrName)
	wantCheck(t, "node f() returns (b: int); let b = true; tel node f"+tail, 0, api.ErrType)
	wantCheck(t, "node f() returns (b: int); let tel node f"+tail, 0, api.ErrShape)
}

func TestP30NamesTwice(t *testing.T) {
	for _, s := range []string{
		"node f(a: int; a: int) returns (b: int); let b = a; tel",
		"node f(a: int; c: int; a: bool) returns (b: int); let b = c; tel",
		"node f(a: int) returns (a: int); let a = 1; tel",
		"node f() returns (a: int; a: int); let a = 1; tel",
		"node f() returns (a: int; a: int); let (a, a) = g(); tel",
		"node f(b: int) returns (a: int); var b: int; let a = 1; b = 1; tel",
		"node f() returns (a: int); var a: int; let a = 1; tel",
		"node f() returns (a: int); var b: int; b: int; let a = 1; b = 1; tel",
		"node f(a: int; a: int) returns (b: int); let b = true; tel",
	} {
		wantCheck(t, s, 0, api.ErrName)
		wantCheck(t, ahead+s, 3, api.ErrName)
	}
}

func TestP30NamesSet(t *testing.T) {
	for _, s := range []string{
		"zz = 1; " + rest,
		"i = 1; " + rest,
		"(x, i) = two(1, true); y = true; u = 1; v = true;",
		rest + "x = 1;",
		rest + "(x, y) = two(1, true);",
		"(x, x) = two(1, true); " + rest,
		"(x, u, x) = two(1, true);",
		"one = 1; " + rest,
		"b = 1; " + rest,         // a name of a node ahead
		"zz = 1 + true; " + rest, // names that are set come ahead of the term
		"i = true; " + rest,
		rest + "x = 1 + true;",
		"(x, x) = 1 + true;",
	} {
		wantCheck(t, inside(s), 3, api.ErrName)
	}
}

func TestP30NamesInTerms(t *testing.T) {
	for _, e := range []string{
		"zz", "zz + 1", "1 + zz", "pre zz", "0 -> zz", "if zz then 1 else 2", "if j then 1 else zz",
		"one(zz)", "main", "one", "a", "b", // names of nodes, and of flows of others
		"main(1, true)", "three(1)", "i(1)", "one(three())", "one(1) + two2(1, true)", "x()",
	} {
		wantCheck(t, inside("x = "+e+"; y = true; u = 1; v = true;"), 3, api.ErrName)
		wantCheck(t, inside(rest+"check "+e+";"), 3, api.ErrName)
		wantCheck(t, inside(rest+"assert "+e+";"), 3, api.ErrName)
	}
	// A node that comes later is not ahead; what is ahead of it is.
	wantCheck(t, "node a() returns (x: int); let x = b(); tel node b() returns (x: int); let x = 1; tel", 0, api.ErrName)
	wantCheck(t, "node b() returns (x: int); let x = 1; tel node a() returns (x: int); let x = b(); tel", 0, nil)
	wantCheck(t, "node b() returns (x: int); let x = 0 -> b(); tel", 0, api.ErrName)
	// Names of the node ahead are gone.
	wantCheck(t, "node a(q: int) returns (r: int); var s: int; let r = s; s = q; tel node b() returns (x: int); let x = q; tel", 1, api.ErrName)
}

func TestP30EquationByEquation(t *testing.T) {
	wantCheck(t, inside("x = true; zz = 1;"), 3, api.ErrType)
	wantCheck(t, inside("zz = 1; x = true;"), 3, api.ErrName)
	wantCheck(t, inside("check 1; x = zz;"), 3, api.ErrType)
	wantCheck(t, inside("x = zz; check 1;"), 3, api.ErrName)
	wantCheck(t, inside("x = 1; check 1;"), 3, api.ErrType) // what is never set comes last
	wantCheck(t, inside("x = zz;"), 3, api.ErrName)
}

func TestP30NeverSet(t *testing.T) {
	for _, s := range []string{"", "x = 1;", "y = true; u = 1; v = true;", "x = 1; u = 1; v = true;", "x = 1; y = true; v = true;", "x = 1; y = true; u = 1;", "(x, y) = two(u, v);", "check j;"} {
		wantCheck(t, inside(s), 3, api.ErrShape)
	}
	// Of the node where it is so, ahead of the nodes behind it.
	wantCheck(t, "node a() returns (x: int); let tel node b() returns (x: int); let x = zz; tel", 0, api.ErrShape)
	wantCheck(t, "node a() returns (x: int); let x = zz; tel node b() returns (x: int); let tel", 0, api.ErrName)
	wantCheck(t, "node a() returns (x: int); let x = 1; tel node b() returns (x: int); let tel", 1, api.ErrShape)
}

func TestP1ChecksEnd(t *testing.T) {
	deep := tree.Expr{Op: "int", N: 1}
	for range 200000 {
		deep = tree.Expr{Op: "+", L: []tree.Expr{deep, {Op: "int"}}}
	}
	wide := tree.Expr{Op: "int", N: 1}
	for range 60 {
		wide = tree.Expr{Op: "+", L: []tree.Expr{wide, wide}}
	}
	calls := tree.Expr{Op: "call", S: "one"}
	for range 60 {
		calls = tree.Expr{Op: "call", S: "one", L: []tree.Expr{calls, calls}}
	}
	l := mustRead(t, inside(rest))
	for _, e := range []tree.Expr{deep, wide, calls, {Op: "name", S: strings.Repeat("a", 1<<20)}, {Op: "call"}, {Op: "name"}, {Op: "neg"}, {Op: "if", L: make([]tree.Expr, 3)}} {
		bad := mustRead(t, inside(rest))
		bad[3].L[0].E = e
		if err := Check(bad); err != api.ErrShape {
			t.Errorf("%v", err)
		}
		if k, err := Of(l, "main", e); k != 0 || err != api.ErrShape {
			t.Errorf("%d, %v", k, err)
		}
	}
	// The longest terms that there can be, in the text's bound.
	long := "1" + strings.Repeat("+1", 1400)
	wantCheck(t, inside("x = "+long+"; y = true; u = 1; v = true;"), 0, nil)
	wantCheck(t, inside("x = "+long+" + zz; y = true; u = 1; v = true;"), 3, api.ErrName)
	wantCheck(t, inside("x = "+long+" + j; y = true; u = 1; v = true;"), 3, api.ErrType)
}

func TestP4OnlyRead(t *testing.T) {
	for _, s := range []string{rest, "x = zz;", "x = 1 + true;", "", "(u, v) = two(i, j); (x, y) = two(one(u), none());"} {
		l, same := mustRead(t, inside(s)), mustRead(t, inside(s))
		e, alike := term(t, "one(i + 2) = x"), term(t, "one(i + 2) = x")
		err := Check(l)
		Of(l, "main", e)
		if !reflect.DeepEqual(l, same) || !reflect.DeepEqual(e, alike) {
			t.Errorf("%q: changed to %v, %v", s, l, e)
		}
		if again := Check(l); !reflect.DeepEqual(err, again) {
			t.Errorf("%q: %v, then %v", s, err, again)
		}
	}
}

// TestP3BehindLists: what lies behind a list's length is neither read nor written.
func TestP3BehindLists(t *testing.T) {
	l := mustRead(t, inside(rest))
	behind := append(append([]tree.Var{}, l[3].In...), tree.Var{Name: "behind", Kind: api.Int})
	l[3].In = behind[:2]
	l[3].L[0].E = tree.Expr{Op: "name", S: "behind"}
	if err := Check(l); !errors.Is(err, api.ErrName) {
		t.Error(err)
	}
	if behind[2].Name != "behind" {
		t.Error("written behind the list")
	}
}

// TestOtherPanics: only what a checker throws is taken for an error.
func TestOtherPanics(t *testing.T) {
	defer func() {
		if p := recover(); p != "other" {
			t.Errorf("%v", p)
		}
	}()
	caught(func() { panic("other") })
	t.Error("a panic was swallowed")
}
