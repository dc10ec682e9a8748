package order

import (
	"slices"
	"testing"

	"lustrum/api"
	"lustrum/flat"
	"lustrum/tree"
)

func wantLate(t *testing.T, what any, p flat.Program, want ...int) {
	t.Helper()
	l, err := Late(p)
	if !slices.Equal(l, want) || err != nil {
		t.Errorf("%v: %v, %v, want %v", what, l, err, want)
	}
}

func TestP51Late(t *testing.T) {
	const outs = "x: int; y: int; z: int)"
	for _, c := range []struct {
		equations string
		want      []int
	}{
		{"x = 1; y = i; z = if b then 1 else -2;", []int{0, 0, 0}},
		{"x = pre 1; y = pre i; z = pre x;", []int{1, 1, 2}},
		{"x = pre 1; y = pre pre i; z = pre pre pre y;", []int{1, 2, 2}},
		{"x = pre y; y = pre z; z = pre i;", []int{2, 2, 1}},
		{"x = y; y = z; z = pre i;", []int{1, 1, 1}},
		{"x = y + z; y = 1; z = pre i;", []int{1, 0, 1}},
		// a -> b: a's, but 2 if b's is 2.
		{"x = 0 -> pre x + 1; y = i -> pre i; z = pre i -> 1;", []int{0, 0, 1}},
		{"x = pre i -> pre i; y = pre pre i -> 1; z = pre pre i -> pre i;", []int{1, 2, 2}},
		{"x = 0 -> pre pre i; y = pre i -> pre pre i; z = pre pre i -> pre pre i;", []int{2, 2, 2}},
		{"x = 0 -> 0 -> pre pre i; y = (0 -> pre i) -> 1; z = 0 -> pre (0 -> pre i);", []int{2, 0, 0}},
		{"x = (pre i -> 1) -> 2; y = 0 -> (pre i -> 1); z = pre (pre i -> 1);", []int{1, 0, 2}},
		// a fby b: as a -> pre b.
		{"x = 0 fby i; y = 0 fby pre i; z = 0 fby pre pre i;", []int{0, 2, 2}},
		{"x = pre i fby i; y = pre i fby pre i; z = pre pre i fby 1;", []int{1, 2, 2}},
		{"x = 0 fby x; y = 0 fby (pre i -> 1); z = 0 fby (0 -> pre i);", []int{0, 2, 0}},
		{"x = pre (0 fby i); y = 0 -> pre (0 fby i); z = pre i fby (1 fby i);", []int{1, 0, 1}},
		// The least numbers that hold.
		{"x = pre x; y = 1; z = y;", []int{2, 0, 0}},
		{"x = pre y; y = x; z = pre z + pre 1;", []int{2, 2, 2}},
		{"x = 0 -> pre y; y = 0 -> pre x; z = 0 -> pre (x + y + z);", []int{0, 0, 0}},
		{"x = 0 -> pre y; y = pre x; z = 0 -> pre x;", []int{2, 2, 2}},
		{"x = 0 -> y; y = pre x; z = pre 1 -> pre z;", []int{0, 1, 2}},
		{"x = 0 fby y; y = pre x; z = pre 1 fby z;", []int{2, 2, 2}},
		{"x = 0 fby y; y = x; z = (pre x -> 1) -> 2;", []int{0, 0, 1}},
		// By calls: of each its inputs, then its own flows.
		{"x = same(pre i); y = last(i); z = last(pre i);", []int{1, 1, 1, 0, 1, 1, 1, 2, 2}},
		{"x = from(1, i); y = from(pre i, 2); z = from(1, pre i);", []int{0, 0, 0, 0, 1, 0, 1, 1, 0, 1, 2, 2}},
	} {
		wantLate(t, c.equations, made(t, outs, c.equations), c.want...)
	}
	wantLate(t, "nothing", flat.Program{})
	// An input's name is late by 0, whatever is made of it.
	p := ints(op("pre", name("i")), name("i"))
	p.In = []tree.Var{{Name: "i", Kind: api.Int}}
	wantLate(t, "inputs", p, 1, 0)
}

// lateBy makes a term that is late by so much.
func lateBy(n int) tree.Expr {
	return [3]tree.Expr{num(1), op("pre", num(1)), op("pre", op("pre", num(1)))}[n]
}

func TestP51EachOperator(t *testing.T) {
	wants := map[string][2][3]int{ // of a part that is late by 0, 1 and 2, the others by 0
		"->":  {{0, 1, 2}, {0, 0, 2}},
		"fby": {{0, 1, 2}, {0, 2, 2}},
		"pre": {{1, 2, 2}},
	}
	tried := 0
	for s, e := range operators() {
		for n := range 3 {
			for i, put := range with(e, lateBy(n)) {
				want := n
				if table, ok := wants[s]; ok {
					want = table[i][n]
				}
				tried++
				wantLate(t, []any{s, i, n}, ints(asInt(put)), want)
				// The same by a name.
				named := with(e, name("y"))[i]
				wantLate(t, []any{s, i, n, "name"}, ints(asInt(named), lateBy(n)), want, n)
			}
		}
	}
	for a := range 3 {
		for b := range 3 {
			wantLate(t, []int{a, b}, ints(op("->", lateBy(a), lateBy(b)), op("fby", lateBy(a), lateBy(b)), op("+", lateBy(a), lateBy(b))),
				[3][3]int{{0, 0, 2}, {1, 1, 2}, {2, 2, 2}}[a][b], [3][3]int{{0, 2, 2}, {1, 2, 2}, {2, 2, 2}}[a][b], max(a, b))
		}
	}
	if tried < 120 {
		t.Errorf("only %d terms", tried)
	}
}

func TestP51Greatest(t *testing.T) {
	all := func(n int) []int { return slices.Repeat([]int{n}, api.MaxFlat) }
	same := func(e tree.Expr) tree.Expr { return padded(e, e.S, 3) }
	later := func(e tree.Expr) tree.Expr { return padded(op("->", num(0), op("pre", e)), "f0", 0) }
	pre := func(e tree.Expr) tree.Expr { return op("pre", e) }
	wantLate(t, "same", chain(same, op("pre", num(1))), all(1)...)
	wantLate(t, "later", chain(later, op("pre", num(1))), append(all(2)[:399], 1)...)
	wantLate(t, "not late", chain(later, name("f0")), all(0)...)
	wantLate(t, "pre", chain(pre, num(1)), append(all(2)[:398], 1, 0)...)
	wantLate(t, "pre in a cycle", chain(pre, op("->", num(1), name("f0"))), all(2)...)
	wantLate(t, "same in a cycle", chain(same, op("pre", name("f0"))), all(2)...)
	deep := name("y")
	for range api.MaxTerms - 2 {
		deep = op("pre", deep)
	}
	wantLate(t, "deep", ints(deep, num(1)), 2, 0)
}

func wantCheck(t *testing.T, what any, p flat.Program, at int, want error) {
	t.Helper()
	if err := Check(p); !isFault(err, at, want) {
		t.Errorf("%v: %#v, want %v at %d", what, err, want, at)
	}
}

func TestP52Check(t *testing.T) {
	for _, c := range []struct {
		outs, equations string
		at              int
		err             error
	}{
		{"x: int; y: int)", "x = 0 -> pre y; y = 0 fby x;", -1, nil},
		// An output must not be late; another flow may be, by 1.
		{"x: int; y: int)", "x = pre i; y = 1;", 0, api.ErrFirst},
		{"x: int; y: int)", "y = pre i; x = 1;", 0, api.ErrFirst},
		{"x: int; y: int)", "y = 1; x = pre i;", 1, api.ErrFirst},
		{"x: int; y: int)", "x = y; y = pre i;", 0, api.ErrFirst},
		{"x: int); var y: int", "x = 1; y = pre i;", -1, nil},
		{"x: int); var y: int", "x = 0 -> y; y = pre i;", -1, nil},
		{"x: int); var y: int", "x = y; y = pre i;", 0, api.ErrFirst},
		{"x: int); var y: int", "y = pre i; x = y;", 1, api.ErrFirst},
		{"x: int); var y: int", "x = 0 -> pre y; y = pre i;", 0, api.ErrFirst},
		{"x: int); var y: int", "x = 1; y = 1 / pre i;", -1, nil},
		{"x: int)", "x = 1 / pre i;", 0, api.ErrFirst},
		// No flow may be late by 2.
		{"x: int); var y: int", "x = 1; y = pre pre i;", 1, api.ErrFirst},
		{"x: int); var y: int", "x = 1; y = pre y;", 1, api.ErrFirst},
		{"x: int); var y: int", "x = 1; y = 0 -> pre pre i;", 1, api.ErrFirst},
		{"x: int); var y: int", "x = 1; y = 0 fby pre i;", 1, api.ErrFirst},
		{"x: int); var y: int", "y = pre pre i; x = pre i;", 0, api.ErrFirst},
		{"x: int); var y: int; z: int", "y = pre i; z = pre y; x = z;", 1, api.ErrFirst},
		{"x: int); var y: int; z: int", "y = pre i; x = y; z = pre y;", 1, api.ErrFirst},
		// Nor a term of an assert or a check, by whatever.
		{"x: int)", "x = 1; assert b; check i > x;", -1, nil},
		{"x: int)", "x = 1; assert true -> pre b; check b fby b;", -1, nil},
		{"x: int)", "x = 1; assert pre b; check b;", -1, api.ErrFirst},
		{"x: int)", "x = 1; assert b; check pre b;", -1, api.ErrFirst},
		{"x: int)", "x = 1; assert b; assert b; assert pre b;", -1, api.ErrFirst},
		{"x: int)", "x = 1; check b; check b; check pre pre b;", -1, api.ErrFirst},
		{"x: int)", "x = 1; assert true -> pre pre b;", -1, api.ErrFirst},
		{"x: int)", "x = 1; check true fby pre b;", -1, api.ErrFirst},
		{"x: int); var y: int", "x = 1; y = pre i; check y > 1;", -1, api.ErrFirst},
		{"x: int); var y: int", "x = 1; y = pre i; check true -> y > 1;", -1, nil},
		{"x: int); var y: int", "x = 1; y = pre i; check true -> pre y > 1;", -1, api.ErrFirst},
		// Flows come ahead of those.
		{"x: int); var y: int", "assert pre b; x = pre i; y = 1; check pre b;", 0, api.ErrFirst},
		{"x: int); var y: int", "assert pre b; x = 1; y = pre pre i;", 1, api.ErrFirst},
		// By calls.
		{"x: int)", "x = last(i);", 2, api.ErrFirst},
		{"x: int)", "x = 0 -> last(i);", -1, nil},
		{"x: int)", "x = 0 -> last(last(i));", 3, api.ErrFirst},
		{"x: int)", "x = from(pre i, 1);", 3, api.ErrFirst},
		{"x: int)", "x = 1 -> from(pre i, 1);", -1, nil},
		{"x: int)", "x = 1 -> from(1, pre i);", 2, api.ErrFirst},
	} {
		wantCheck(t, c.outs+" "+c.equations, made(t, c.outs, c.equations), c.at, c.err)
	}
	wantCheck(t, "nothing", flat.Program{}, -1, nil)
	wantCheck(t, "no flows", flat.Program{Asserts: []tree.Expr{op("pre", op("true"))}}, -1, api.ErrFirst)
	// Late and Order have no such errors.
	p := made(t, "x: int; y: int)", "x = pre y; y = pre pre 1; check pre b;")
	wantOrder(t, "late", p, 0, 1)
	wantLate(t, "late", p, 2, 2)
	wantCheck(t, "late", p, 0, api.ErrFirst)
}

// TestP52Outs: it is Out that tells which flows are outputs, in whatever order.
func TestP52Outs(t *testing.T) {
	p := ints(num(1), op("pre", num(1)), op("pre", num(2)))
	for _, c := range []struct {
		out []string
		at  int
	}{{nil, -1}, {[]string{"x"}, -1}, {[]string{"y"}, 1}, {[]string{"z"}, 2}, {[]string{"z", "x", "y"}, 1}, {[]string{"z", "x"}, 2}} {
		p.Out = c.out
		want := api.ErrFirst
		if c.at < 0 {
			want = nil
		}
		wantCheck(t, c.out, p, c.at, want)
	}
}
