package flat

import (
	"reflect"
	"slices"
	"strconv"
	"testing"

	"lustrum/api"
	"lustrum/tree"
)

func name(s string) tree.Expr { return tree.Expr{Op: "name", S: s} }

func num(n int) tree.Expr { return tree.Expr{Op: "int", N: n} }

func op(op string, l ...tree.Expr) tree.Expr { return tree.Expr{Op: op, L: l} }

// sound is a program that is right: i, x are bools, j, y ints.
func sound() Program {
	return Program{
		In:      []tree.Var{{Name: "i", Kind: api.Bool}, {Name: "j", Kind: api.Int}},
		Out:     []string{"y", "x"},
		L:       []Flow{{"x", api.Bool, op("not", name("i"))}, {"y", api.Int, op("+", name("j"), num(1))}},
		Asserts: []tree.Expr{name("i")},
		Checks:  []tree.Expr{op("=>", name("i"), op("<", name("y"), num(3)))},
	}
}

// wantCheck holds what Check answers, bare, and that Text answers it, too.
func wantCheck(t *testing.T, what any, p Program, want error) {
	t.Helper()
	if err := Check(p); err != want {
		t.Errorf("%v: %#v, want %v", what, err, want)
	}
	if s, err := Text(p); err != want || (s == "") != (want != nil || reflect.DeepEqual(p, Program{})) {
		t.Errorf("%v: text of %d bytes, %#v, want %v", what, len(s), err, want)
	}
}

// everywhere puts a term of an int, or of a bool, at all places of a program where a term may stand: as that, and within others.
func everywhere(kind int, e tree.Expr) []Program {
	var l []Program
	put := func(change func(p *Program)) {
		p := sound()
		change(&p)
		l = append(l, p)
	}
	if kind == api.Int {
		put(func(p *Program) { p.L[1].E = e })
		put(func(p *Program) { p.L[1].E.L[1] = e })
		e = op("=", e, num(1))
	} else {
		put(func(p *Program) { p.L[0].E.L[0] = e })
	}
	put(func(p *Program) { p.L[0].E = e })
	put(func(p *Program) { p.Asserts[0] = e })
	put(func(p *Program) { p.Asserts = append(p.Asserts, e) })
	put(func(p *Program) { p.Checks[0].L[0] = e })
	put(func(p *Program) { p.Checks = append(p.Checks, op("not", op("pre", e))) })
	put(func(p *Program) { p.Checks[0] = op("if", name("i"), e, name("x")) })
	put(func(p *Program) { p.Checks[0] = op("if", name("i"), name("x"), e) })
	return l
}

func wantEverywhere(t *testing.T, kind int, e tree.Expr, want error) {
	t.Helper()
	for i, p := range everywhere(kind, e) {
		wantCheck(t, []any{i, e}, p, want)
	}
}

func TestP42Right(t *testing.T) {
	wantCheck(t, "nothing", Program{}, nil)
	wantCheck(t, "sound", sound(), nil)
	if err := Check(Program{In: []tree.Var{}, Out: []string{}, L: []Flow{}, Asserts: []tree.Expr{}, Checks: []tree.Expr{}}); err != nil {
		t.Errorf("empty lists: %v", err)
	}
	for _, e := range []tree.Expr{num(0), num(127), name("j"), name("y"), op("neg", num(0)), op("pre", name("y")), op("-", num(1), num(2)), op("if", name("i"), num(1), num(2)), op("->", num(1), name("y")), op("fby", num(1), name("y")), {Op: "int", L: []tree.Expr{}}} {
		wantEverywhere(t, api.Int, e, nil)
	}
	for _, e := range []tree.Expr{op("true"), op("false"), name("x"), op("not", name("x")), op("xor", name("x"), name("i")), op("<>", name("x"), name("i")), op(">=", num(1), name("y"))} {
		wantEverywhere(t, api.Bool, e, nil)
	}
	// Names may be any text; all flows or none may be outputs.
	p := sound()
	for _, s := range []string{"0.x", "a b", "node", "\n", "\xff", "in i bool", "12"} {
		p.L = append(p.L, Flow{s, api.Int, name(s)})
	}
	wantCheck(t, "names", p, nil)
	p.Out = nil
	wantCheck(t, "no outputs", p, nil)
}

func TestP42Names(t *testing.T) {
	for i, change := range []func(p *Program){
		func(p *Program) { p.In[0].Kind = 0 },
		func(p *Program) { p.In[1].Kind = 3 },
		func(p *Program) { p.In[1].Kind = -1 },
		func(p *Program) { p.L[0].Kind = 0 },
		func(p *Program) { p.L[1].Kind = 3 },
		func(p *Program) { p.L[1].Kind = 1 << 40 },
		func(p *Program) { p.In[0].Name = "" },
		func(p *Program) { p.L = append(p.L, Flow{"", api.Int, num(1)}) },
		func(p *Program) { p.In = append(p.In, p.In[0]) },
		func(p *Program) { p.In = append(p.In, tree.Var{Name: "j", Kind: api.Bool}) },
		func(p *Program) { p.In = append(p.In, tree.Var{Name: "x", Kind: api.Bool}) },
		func(p *Program) { p.L = append(p.L, p.L[1]) },
		func(p *Program) { p.L = append(p.L, Flow{"x", api.Int, num(1)}) },
		func(p *Program) { p.L = append(p.L, Flow{"i", api.Bool, op("true")}) },
		func(p *Program) { p.Out = append(p.Out, "i") },
		func(p *Program) { p.Out = append(p.Out, "j") },
		func(p *Program) { p.Out = append(p.Out, "zz") },
		func(p *Program) { p.Out = append(p.Out, "") },
		func(p *Program) { p.Out[0] = "Y" },
		func(p *Program) { p.Out = append(p.Out, "y") },
		func(p *Program) { p.Out = []string{"x", "x"} },
		func(p *Program) { p.L = nil },
		func(p *Program) { p.L = p.L[1:] },
		func(p *Program) { p.In = nil },
	} {
		p := sound()
		change(&p)
		wantCheck(t, i, p, api.ErrShape)
	}
}

// TestP42NamesAlone: also where no term has a name.
func TestP42NamesAlone(t *testing.T) {
	x := Flow{"x", api.Int, num(1)}
	for i, p := range []Program{
		{In: []tree.Var{{}}},
		{In: []tree.Var{{Name: "i"}}},
		{In: []tree.Var{{Name: "i", Kind: 3}}},
		{In: []tree.Var{{Kind: api.Int}}},
		{In: []tree.Var{{Name: "i", Kind: api.Int}, {Name: "i", Kind: api.Int}}},
		{In: []tree.Var{{Name: "x", Kind: api.Int}}, L: []Flow{x}},
		{L: []Flow{x, x}},
		{L: []Flow{{"", api.Int, num(1)}}},
		{L: []Flow{{"x", 0, num(1)}}},
		{L: []Flow{{"x", 3, num(1)}}},
		{Out: []string{"x"}},
		{L: []Flow{x}, Out: []string{"x", "x"}},
	} {
		wantCheck(t, i, p, api.ErrShape)
	}
}

func TestP42Terms(t *testing.T) {
	arity := map[string]int{"int": 0, "true": 0, "false": 0, "name": 0, "not": 1, "neg": 1, "pre": 1, "if": 3}
	for _, s := range []string{"and", "or", "xor", "=>", "=", "<>", "<", "<=", ">", ">=", "+", "-", "*", "/", "mod", "->", "fby"} {
		arity[s] = 2
	}
	for s, n := range arity {
		for k := range 6 {
			e := op(s, slices.Repeat([]tree.Expr{name("x")}, k)...)
			if s == "name" {
				e.S = "x"
			}
			if err := Check(Program{L: []Flow{{"x", api.Bool, e}}}); (err == api.ErrShape) != (k != n) {
				t.Errorf("%s of %d parts: %v", s, k, err)
			}
		}
		e := op(s, slices.Repeat([]tree.Expr{name("x")}, n)...)
		e.S = "x"
		if s != "name" {
			wantEverywhere(t, api.Int, e, api.ErrShape)
		}
		e.S, e.N = "", 1
		if s == "name" {
			e.S = "x"
		}
		if s != "int" {
			wantEverywhere(t, api.Bool, e, api.ErrShape)
		}
	}
	for _, e := range []tree.Expr{
		{}, op("zz"), op("Name"), op("let"), op("set"), op("then", name("i"), name("i")), op(" + ", num(1), num(2)), op("==", num(1), num(2)),
		op("call"), {Op: "call", S: "x"}, {Op: "call", S: "x", L: []tree.Expr{num(1)}}, {Op: "call", S: "x", N: 1},
		num(-1), num(128), num(-1 << 63), num(1 << 62), name("zz"), name(""), name("X"), name("x "), name("0.x"),
		{Op: "name", S: "x", N: -1}, {Op: "int", N: 3, S: "3"}, {Op: "true", N: 1},
		op("neg", op("+", num(1), tree.Expr{})), op("and", name("x"), name("zz")), op("->", num(1), op("fby", num(1), num(128))),
	} {
		wantEverywhere(t, api.Int, e, api.ErrShape)
		wantEverywhere(t, api.Bool, e, api.ErrShape)
	}
}

// sum is a term of so many parts: an odd number.
func sum(parts int) tree.Expr {
	e := num(1)
	for range (parts - 1) / 2 {
		e = op("+", e, num(1))
	}
	return e
}

// big is a program that is right, of so many inputs, flows, and parts of terms (0: those of the flows).
func big(inputs, flows, parts int) Program {
	var p Program
	for i := range inputs {
		p.In = append(p.In, tree.Var{Name: "i" + strconv.Itoa(i), Kind: api.Int})
	}
	for i := range flows {
		p.L = append(p.L, Flow{"x" + strconv.Itoa(i), api.Int, num(1)})
	}
	if left := parts - flows; left > 0 {
		if left%2 == 0 {
			p.Asserts, left = append(p.Asserts, op("true")), left-1
		}
		p.Checks = append(p.Checks, op("=", sum(left-2), num(2)))
	}
	return p
}

func TestP42Bounds(t *testing.T) {
	wantCheck(t, "all", big(api.MaxParts, api.MaxFlat, api.MaxTerms), nil)
	wantCheck(t, "inputs", big(api.MaxParts+1, 1, 0), api.ErrBound)
	wantCheck(t, "flows", big(0, api.MaxFlat+1, 0), api.ErrBound)
	wantCheck(t, "many flows", big(0, 3*api.MaxTerms, 0), api.ErrBound)
	wantCheck(t, "parts", big(0, 0, api.MaxTerms+1), api.ErrBound)
	wantCheck(t, "parts of some flows", big(0, 200, api.MaxTerms+1), api.ErrBound)
	wantCheck(t, "many parts", big(1, 1, 100000), api.ErrBound)
	// Parts that stand in one place of memory count as often as they are there.
	half := sum(1999)
	p := Program{Checks: []tree.Expr{op("=", half, half)}}
	wantCheck(t, "one less", p, nil)
	p.Asserts = []tree.Expr{op("true")}
	wantCheck(t, "just as many", p, nil)
	p.Asserts = append(p.Asserts, op("true"))
	wantCheck(t, "one more", p, api.ErrBound)
	// In a flow, in an assert, in a check.
	for i, e := range everywhere(api.Int, sum(4001)) {
		wantCheck(t, i, e, api.ErrBound)
	}
}

func TestP42Types(t *testing.T) {
	for _, e := range []tree.Expr{op("true"), name("x"), name("i"), op("not", name("x")), op("=", num(1), num(2)), op("pre", name("x"))} {
		wantEverywhere(t, api.Int, e, api.ErrType)
	}
	for _, e := range []tree.Expr{num(1), name("y"), name("j"), op("neg", num(1)), op("+", num(1), num(2)), op("fby", num(1), name("y"))} {
		wantEverywhere(t, api.Bool, e, api.ErrType)
	}
	for _, e := range []tree.Expr{op("not", num(1)), op("neg", name("x")), op("+", num(1), name("x")), op("+", name("x"), num(1)), op("=", num(1), name("x")), op("if", num(1), num(1), num(1)), op("if", name("i"), num(1), name("x")), op("->", name("x"), num(1)), op("fby", num(1), name("x")), op("pre", op("neg", name("x"))), op("=>", name("x"), num(1)), op("<", name("x"), name("x"))} {
		wantEverywhere(t, api.Int, e, api.ErrType)
		wantEverywhere(t, api.Bool, e, api.ErrType)
	}
	// The flow's type counts, not that of what its term needs.
	p := sound()
	p.L[0].Kind = api.Int
	wantCheck(t, "flow", p, api.ErrType)
	p = sound()
	p.L[0].Kind, p.L[0].E = api.Int, num(1)
	wantCheck(t, "flow of another type", p, nil)
	p.In[0].Kind = api.Int
	wantCheck(t, "input of another type", p, api.ErrType)
}

// TestP42Order: shapes come ahead of bounds, those ahead of types, wherever they stand.
func TestP42Order(t *testing.T) {
	wrongShapes := []func(p *Program){
		func(p *Program) { p.In = append(p.In, tree.Var{}) },
		func(p *Program) { p.L = append(p.L, Flow{"last", 3, num(1)}) },
		func(p *Program) { p.Out = append(p.Out, "zz") },
		func(p *Program) { p.L = append(p.L, Flow{"last", api.Int, op("zz")}) },
		func(p *Program) { p.Checks = append(p.Checks, op("not", name("zz"))) },
		func(p *Program) { p.Asserts = append(p.Asserts, op("not", op("call"))) },
	}
	wrongBounds := []func(p *Program){
		func(p *Program) { p.In = append(p.In, big(31, 0, 0).In...) },
		func(p *Program) { p.L = append(p.L, big(0, 401, 0).L...) },
		func(p *Program) { p.Asserts = append(p.Asserts, big(0, 0, 4001).Checks...) },
		func(p *Program) { p.Checks = append(p.Checks, big(0, 0, 4001).Checks...) },
	}
	wrongTypes := []func(p *Program){
		func(p *Program) { p.L[0].E = num(1) },
		func(p *Program) { p.Asserts[0] = num(1) },
		func(p *Program) { p.Checks[0] = op("neg", op("true")) },
	}
	for i, shape := range wrongShapes {
		for k, bound := range wrongBounds {
			for m, kind := range wrongTypes {
				p := sound()
				kind(&p)
				wantCheck(t, m, p, api.ErrType)
				bound(&p)
				wantCheck(t, []int{k, m}, p, api.ErrBound)
				shape(&p)
				wantCheck(t, []int{i, k, m}, p, api.ErrShape)
				p = sound()
				shape(&p)
				kind(&p)
				wantCheck(t, []int{i, m}, p, api.ErrShape)
			}
		}
	}
}

// TestP1ChecksEnd: terms without end, or of any depth, are told as others are.
func TestP1ChecksEnd(t *testing.T) {
	for _, c := range []struct {
		leaf tree.Expr
		want error
	}{{num(1), api.ErrBound}, {op("true"), api.ErrBound}, {name("y"), api.ErrBound}, {num(128), api.ErrShape}, {name("zz"), api.ErrShape}, {op("call"), api.ErrShape}} {
		wide, deep, left := c.leaf, c.leaf, c.leaf
		for range 70 {
			wide = op("+", num(1), op("if", name("i"), wide, wide))
		}
		for range 200000 {
			deep = op("neg", deep)
			left = op("-", left, num(1))
		}
		for _, e := range []tree.Expr{wide, deep, left} {
			for _, p := range everywhere(api.Int, e)[1:4] {
				if err := Check(p); err != c.want {
					t.Errorf("%s: %v, want %v", c.leaf.Op, err, c.want)
				}
			}
		}
	}
	// The deepest terms that may be.
	deep := num(1)
	for range api.MaxTerms - 1 {
		deep = op("neg", deep)
	}
	wantCheck(t, "deepest", Program{L: []Flow{{"x", api.Int, deep}}}, nil)
	wantCheck(t, "deeper", Program{L: []Flow{{"x", api.Int, op("pre", deep)}}}, api.ErrBound)
}

func TestP4CheckOnlyReads(t *testing.T) {
	for i, p := range append(everywhere(api.Int, op("not", num(1))), sound(), Program{}) {
		same := everywhere(api.Int, op("not", num(1)))
		same = append(same, sound(), Program{})
		err := Check(p)
		if again := Check(p); again != err {
			t.Errorf("%v, then %v", err, again)
		}
		Text(p)
		if !reflect.DeepEqual(p, same[i]) {
			t.Errorf("%d: changed to %v", i, p)
		}
	}
	// What lies behind a list's length is neither read nor written.
	p := sound()
	bad := Program{
		In:      append(p.In, tree.Var{}),
		Out:     append(p.Out, "zz"),
		L:       append(p.L, Flow{}),
		Asserts: append(p.Asserts, tree.Expr{}),
		Checks:  append(p.Checks, tree.Expr{}),
	}
	bad.In, bad.Out, bad.L, bad.Asserts, bad.Checks = bad.In[:2], bad.Out[:2], bad.L[:2], bad.Asserts[:1], bad.Checks[:1]
	wantCheck(t, "behind", bad, nil)
	if !reflect.DeepEqual(bad.In[:3][2], tree.Var{}) || bad.Out[:3][2] != "zz" || !reflect.DeepEqual(bad.L[:3][2], Flow{}) || !reflect.DeepEqual(bad.Asserts[:2][1], tree.Expr{}) || !reflect.DeepEqual(bad.Checks[:2][1], tree.Expr{}) {
		t.Error("written behind a list")
	}
}
