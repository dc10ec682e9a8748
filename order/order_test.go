package order

import (
	"fmt"
	"reflect"
	"slices"
	"strconv"
	"strings"
	"testing"

	"lustrum/api"
	"lustrum/flat"
	"lustrum/tree"
)

func name(s string) tree.Expr { return tree.Expr{Op: "name", S: s} }

func num(n int) tree.Expr { return tree.Expr{Op: "int", N: n} }

func op(s string, l ...tree.Expr) tree.Expr { return tree.Expr{Op: s, L: l} }

// made reads a node with inputs i (an int) and b (a bool) and makes it flat.
func made(t testing.TB, outs, equations string) flat.Program {
	t.Helper()
	l, err := tree.Read(ahead + "node n(i: int; b: bool) returns (" + outs + ";\nlet\n" + equations + "\ntel\n")
	if err != nil {
		t.Fatal(equations, err)
	}
	p, err := flat.Make(l, "n")
	if err != nil {
		t.Fatal(equations, err)
	}
	return p
}

// ahead are nodes that others call.
const ahead = `
node same(u: int) returns (v: int); let v = u; tel
node last(u: int) returns (v: int); let v = pre u; tel
node from(u: int; w: int) returns (v: int); let v = u fby w; tel
`

// ints makes a program of int flows x, y, z.. of those terms, without inputs and outputs.
func ints(terms ...tree.Expr) flat.Program {
	var p flat.Program
	for i, e := range terms {
		p.L = append(p.L, flat.Flow{Name: string(rune('x' + i)), Kind: api.Int, E: e})
	}
	return p
}

func wantOrder(t *testing.T, what any, p flat.Program, want ...int) {
	t.Helper()
	l, err := Order(p)
	if !slices.Equal(l, want) || err != nil {
		t.Errorf("%v: %v, %v, want %v", what, l, err, want)
	}
}

// wantFault holds that every call refuses a program with that error At that place, or bare (-1).
func wantFault(t *testing.T, what any, p flat.Program, at int, want error) {
	t.Helper()
	order, err := Order(p)
	late, lateErr := Late(p)
	if len(order) > 0 || len(late) > 0 {
		t.Errorf("%v: %v, %v", what, order, late)
	}
	for i, err := range []error{err, lateErr, Check(p)} {
		if !isFault(err, at, want) {
			t.Errorf("%v, %d: %#v, want %v at %d", what, i, err, want, at)
		}
	}
}

func isFault(err error, at int, want error) bool {
	if at < 0 {
		return err == want
	}
	f, ok := err.(*api.Fault)
	return ok && *f == api.Fault{At: at, Err: want}
}

func TestP50Order(t *testing.T) {
	const outs = "x: int; y: int; z: int)"
	for _, c := range []struct {
		equations string
		want      []int
	}{
		{"x = 1; y = 2; z = 3;", []int{0, 1, 2}},
		{"x = i; y = i; z = i;", []int{0, 1, 2}},
		{"x = y; y = z; z = i;", []int{2, 1, 0}},
		{"x = z; y = 2; z = 3;", []int{1, 2, 0}},
		{"x = y; y = 2; z = 3;", []int{1, 0, 2}},
		{"x = z; y = z; z = 3;", []int{2, 0, 1}},
		{"x = 1; y = z; z = x;", []int{0, 2, 1}},
		{"x = y + y; y = z * z; z = 3;", []int{2, 1, 0}},
		{"x = y + z; y = 2; z = 3;", []int{1, 2, 0}},
		// Numbers are of flows as they stand, not of outputs or names.
		{"z = 1; y = x; x = 2;", []int{0, 2, 1}},
		// What is below a pre, or second in a fby, does not count.
		{"x = 0 -> pre y; y = 0 -> pre z; z = 3;", []int{0, 1, 2}},
		{"x = 0 -> pre x; y = 0 fby y; z = 0 fby (z + y);", []int{0, 1, 2}},
		{"x = 0 -> pre (y + z); y = 0 -> pre (x + z); z = 0 fby (x + y);", []int{0, 1, 2}},
		{"x = 0 -> pre (0 -> z); y = 0 fby z -> z; z = 3;", []int{0, 1, 2}},
		{"x = 0 -> pre (z fby z); y = 0 fby (z fby z); z = x fby x;", []int{0, 1, 2}},
		// But what stands beside one does.
		{"x = 0 -> pre z + z; y = 2; z = 3;", []int{1, 2, 0}},
		{"x = 0 -> z + pre z; y = 2; z = 3;", []int{1, 2, 0}},
		{"x = z fby 1; y = 2; z = 3;", []int{1, 2, 0}},
		{"x = (z + 1) fby z; y = 2; z = 3;", []int{1, 2, 0}},
		{"x = (1 -> z) fby 1; y = 2; z = 3;", []int{1, 2, 0}},
		{"x = z -> 1; y = 2; z = 3;", []int{1, 2, 0}},
		{"x = 1 -> z; y = 2; z = 3;", []int{1, 2, 0}},
		{"x = if b then z else 1; y = 2; z = 3;", []int{1, 2, 0}},
		{"x = if b then 1 else z; y = 2; z = 3;", []int{1, 2, 0}},
		{"x = if z > 1 then 1 else 2; y = 2; z = 3;", []int{1, 2, 0}},
		// Calls are flows like others; asserts and checks are none.
		{"x = same(z); y = 2; z = 3;", []int{3, 4, 0, 1, 2}},
		{"x = 0 -> last(z); y = 2; z = 3;", []int{1, 2, 3, 4, 0}},
		{"x = from(1, x); y = 2; z = x;", []int{0, 2, 3, 1, 4, 5}},
		{"assert x > y; check z = 1; x = z; y = 2; z = 3;", []int{1, 2, 0}},
	} {
		wantOrder(t, c.equations, made(t, outs, c.equations), c.want...)
	}
	wantOrder(t, "nothing", flat.Program{})
	wantOrder(t, "inputs alone", flat.Program{In: []tree.Var{{Name: "x", Kind: api.Int}}})
	wantOrder(t, "no flow", flat.Program{Asserts: []tree.Expr{op("true")}, Checks: []tree.Expr{op("pre", op("false"))}})
}

// operators of ints and bools, with a term of each: the parts are numbered by what stands in them.
func operators() map[string]tree.Expr {
	m := map[string]tree.Expr{
		"neg": op("neg", num(0)), "not": op("not", op("<", num(0), num(0))),
		"if": op("if", op("<", num(0), num(0)), num(0), num(0)),
		"->": op("->", num(0), num(0)), "fby": op("fby", num(0), num(0)), "pre": op("pre", num(0)),
	}
	for _, s := range []string{"+", "-", "*", "/", "mod", "<", "<=", ">", ">=", "=", "<>"} {
		m[s] = op(s, num(0), num(0))
	}
	for _, s := range []string{"and", "or", "xor", "=>", "=", "<>"} {
		m[s+" of bools"] = op(s, op("<", num(0), num(0)), op(">", num(0), num(0)))
	}
	return m
}

// with puts a term in the place of each 0 of another one, one by one.
func with(e, what tree.Expr) []tree.Expr {
	if e.Op == "int" {
		return []tree.Expr{what}
	}
	var l []tree.Expr
	for i, part := range e.L {
		for _, put := range with(part, what) {
			parts := slices.Clone(e.L)
			parts[i] = put
			l = append(l, tree.Expr{Op: e.Op, L: parts})
		}
	}
	return l
}

// asInt makes an int of a term that is a bool.
func asInt(e tree.Expr) tree.Expr {
	if slices.Contains([]string{"not", "<", "<=", ">", ">=", "=", "<>", "and", "or", "xor", "=>"}, e.Op) {
		return op("if", e, num(0), num(0))
	}
	return e
}

func TestP50EachOperator(t *testing.T) {
	tried := 0
	for s, e := range operators() {
		for i, put := range with(e, name("y")) {
			tried++
			later := s == "pre" || s == "fby" && i == 1
			p := ints(asInt(put), num(1))
			want := []int{1, 0}
			if later {
				want = []int{0, 1}
			}
			wantOrder(t, []any{s, i}, p, want...)
			p = ints(num(1), asInt(put))
			if later {
				wantOrder(t, []any{s, i, "itself"}, p, 0, 1)
			} else {
				wantFault(t, []any{s, i, "itself"}, p, 1, api.ErrCycle)
			}
		}
	}
	if tried < 40 {
		t.Errorf("only %d terms", tried)
	}
}

func TestP50Cycles(t *testing.T) {
	const outs = "x: int; y: int; z: int)"
	for _, c := range []struct {
		equations string
		at        int
	}{
		{"x = x; y = 2; z = 3;", 0},
		{"x = 1; y = y; z = 3;", 1},
		{"x = 1; y = 2; z = 1 - z;", 2},
		{"x = y; y = x; z = 3;", 0},
		{"x = y; y = z; z = x;", 0},
		{"x = 1; y = z; z = y;", 1},
		// One that only needs what is in a cycle is not in it; nor is one that a cycle needs.
		{"x = y; y = z; z = y;", 1},
		{"x = z; y = z; z = z;", 2},
		{"x = z; y = z; z = x + y;", 0},
		{"x = i; y = z + x; z = y;", 1},
		{"x = y; y = y; z = z;", 1},
		{"x = y + z; y = y; z = z;", 1},
		// However little of the cycle there is at an instant.
		{"x = 0 -> x; y = 2; z = 3;", 0},
		{"x = x -> 0; y = 2; z = 3;", 0},
		{"x = x fby 0; y = 2; z = 3;", 0},
		{"x = if true then 1 else x; y = 2; z = 3;", 0},
		{"x = 1; y = 0 * z; z = if y > 1 then 1 else 2;", 1},
		{"x = pre y + z; y = pre x; z = x;", 0},
		// Ahead of what is late.
		{"x = pre 1; y = y; z = 3;", 1},
		{"x = pre pre 1; y = 2; z = z; check pre true;", 2},
		// By calls: same's input is flow 0.
		{"x = same(x); y = 2; z = 3;", 0},
		{"z = 1; x = 2; y = same(y) + same(1);", 2},
		{"x = same(y); y = from(x, 0); z = 3;", 0},
		{"y = 1; x = from(z, 0); z = x;", 1},
	} {
		wantFault(t, c.equations, made(t, outs, c.equations), c.at, api.ErrCycle)
	}
}

// TestP50CheckFirst: what flat.Check refuses is refused with its error, whatever else is wrong.
func TestP50CheckFirst(t *testing.T) {
	many := func(n int) (p flat.Program) {
		for i := range n {
			p.L = append(p.L, flat.Flow{Name: "f" + strconv.Itoa(i), Kind: api.Int, E: name("f0")})
		}
		return p
	}
	deep := name("x")
	for range api.MaxTerms {
		deep = op("pre", deep)
	}
	wide := name("x")
	for range 100 {
		wide = op("+", wide, wide)
	}
	for i, c := range []struct {
		p   flat.Program
		err error
	}{
		{flat.Program{Out: []string{"x"}}, api.ErrShape},
		{flat.Program{In: make([]tree.Var, 1)}, api.ErrShape},
		{flat.Program{L: make([]flat.Flow, 2)}, api.ErrShape},
		{flat.Program{Checks: make([]tree.Expr, 2)}, api.ErrShape},
		{ints(name("x"), name("zz")), api.ErrShape},
		{ints(name("x"), op("pre")), api.ErrShape},
		{ints(name("x"), op("fby", num(1))), api.ErrShape},
		{ints(name("x"), tree.Expr{Op: "call", S: "f"}), api.ErrShape},
		{ints(name("x"), num(128)), api.ErrShape},
		{many(api.MaxFlat + 1), api.ErrBound},
		{ints(deep), api.ErrBound},
		{ints(wide), api.ErrBound},
		{ints(name("x"), op("pre", op("true"))), api.ErrType},
		{ints(name("x"), op("fby", num(1), op("true"))), api.ErrType},
		{flat.Program{Asserts: []tree.Expr{op("pre", num(1))}}, api.ErrType},
	} {
		if err := flat.Check(c.p); err != c.err {
			t.Fatalf("%d: flat.Check: %v, want %v", i, err, c.err)
		}
		wantFault(t, i, c.p, -1, c.err)
	}
	wantFault(t, "cycle", many(api.MaxFlat), 0, api.ErrCycle)
}

// chain makes a program of as many flows as there may be, each made of the next one, and the last of another term.
func chain(link func(next tree.Expr) tree.Expr, last tree.Expr) flat.Program {
	var p flat.Program
	for i := range api.MaxFlat {
		p.L = append(p.L, flat.Flow{Name: "f" + strconv.Itoa(i), Kind: api.Int, E: link(name("f" + strconv.Itoa(i+1)))})
	}
	p.L[api.MaxFlat-1].E = last
	return p
}

// padded makes a term longer by adding a name so often.
func padded(e tree.Expr, s string, times int) tree.Expr {
	for range times {
		e = op("+", e, name(s))
	}
	return e
}

func TestP50Greatest(t *testing.T) {
	up, down := make([]int, api.MaxFlat), make([]int, api.MaxFlat)
	for i := range up {
		up[i], down[i] = i, api.MaxFlat-1-i
	}
	same := func(e tree.Expr) tree.Expr { return padded(e, e.S, 3) }
	wantOrder(t, "backwards", chain(same, num(1)), down...)
	wantFault(t, "all in a cycle", chain(same, name("f0")), 0, api.ErrCycle)
	wantFault(t, "the last alone", chain(same, name("f399")), 399, api.ErrCycle)
	wantFault(t, "two", chain(same, name("f398")), 398, api.ErrCycle)
	wantOrder(t, "later", chain(func(e tree.Expr) tree.Expr { return op("fby", num(1), e) }, num(1)), up...)
	wantOrder(t, "later in a cycle", chain(same, op("->", num(0), op("pre", name("f0")))), down...)
	// A term as deep as may be.
	for s, want := range map[string][]int{"neg": {1, 0}, "pre": {0, 1}} {
		deep := name("y")
		for range api.MaxTerms - 2 {
			deep = op(s, deep)
		}
		wantOrder(t, s, ints(deep, num(1)), want...)
	}
	left := name("y")
	for range api.MaxTerms/2 - 1 {
		left = op("fby", left, name("x"))
	}
	wantOrder(t, "fby", ints(left, num(1)), 1, 0)
}

func TestP4OnlyReads(t *testing.T) {
	const equations = "x = y + (0 -> pre y) + same(y); y = 1 fby (x + 1); z = pre i; assert b; check true -> pre b;"
	p, same := made(t, "x: int; y: int); var z: int", equations), made(t, "x: int; y: int); var z: int", equations)
	if order, late := fmt.Sprint(Order(p)), fmt.Sprint(Late(p)); order != "[3 0 1 2 4] <nil>" || late != "[0 0 0 0 1] <nil>" {
		t.Error(order, late)
	}
	first, _ := Order(p)
	firstLate, _ := Late(p)
	for i := range first {
		first[i], firstLate[i] = -7, -7
	}
	if order, late := fmt.Sprint(Order(p)), fmt.Sprint(Late(p)); order != "[3 0 1 2 4] <nil>" || late != "[0 0 0 0 1] <nil>" {
		t.Error("then", order, late)
	}
	if err := Check(p); err != nil || !reflect.DeepEqual(p, same) {
		t.Errorf("%v, changed to %v", err, p)
	}
	// What lies behind a list's length is neither read nor written.
	behind := flat.Program{
		In:      append(slices.Clone(p.In), tree.Var{Name: "z", Kind: 9}),
		Out:     append(slices.Clone(p.Out), "z"),
		L:       append(slices.Clone(p.L), flat.Flow{Name: "x"}),
		Asserts: append(slices.Clone(p.Asserts), op("pre", op("true"))),
		Checks:  append(slices.Clone(p.Checks), op("pre", op("true"))),
	}
	short := flat.Program{In: behind.In[:2], Out: behind.Out[:2], L: behind.L[:5], Asserts: behind.Asserts[:1], Checks: behind.Checks[:1]}
	whole := fmt.Sprint(behind)
	if order := fmt.Sprint(Order(short)); order != "[3 0 1 2 4] <nil>" || Check(short) != nil || fmt.Sprint(behind) != whole {
		t.Error(order, Check(short), strings.Compare(fmt.Sprint(behind), whole))
	}
}
