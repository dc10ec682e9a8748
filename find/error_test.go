package find

import (
	"math"
	"math/rand"
	"reflect"
	"strconv"
	"testing"

	"lustrum/api"
	"lustrum/flat"
	"lustrum/flow"
	"lustrum/plain"
	"lustrum/sample"
	"lustrum/trans"
	"lustrum/tree"
)

// refused holds Trace to an error; at -1: a bare one.
func refused(t testing.TB, p flat.Program, c, depth, effort, at int, want error) {
	t.Helper()
	x, err := Trace(p, c, depth, effort)
	if x.Kind != "" || len(x.Trace) > 0 {
		t.Errorf("%d, %d, %d: %v with %v", c, depth, effort, x, err)
	}
	if at < 0 {
		if err != want {
			t.Errorf("%d, %d, %d: %#v, want %v", c, depth, effort, err, want)
		}
		return
	}
	if f, ok := err.(*api.Fault); !ok || f.At != at || f.Err != want {
		t.Errorf("%d, %d, %d: %#v, want %v at %d", c, depth, effort, err, want, at)
	}
}

// TestP151Programs: what is wrong with a program is told ahead of all else.
func TestP151Programs(t *testing.T) {
	tooBig := flat.Program{L: make([]flat.Flow, api.MaxFlat+1)}
	for i := range tooBig.L {
		tooBig.L[i] = flat.Flow{Name: strconv.Itoa(i), Kind: api.Bool, E: op("true")}
	}
	for _, w := range []struct {
		p   flat.Program
		at  int
		err error
	}{
		{flat.Program{Out: []string{"x"}}, -1, api.ErrShape},
		{flat.Program{L: []flat.Flow{{Name: "x", Kind: 3}}}, -1, api.ErrShape},
		{flat.Program{In: make([]tree.Var, 1)}, -1, api.ErrShape},
		{flat.Program{Checks: make([]tree.Expr, 1)}, -1, api.ErrShape},
		{flat.Program{Checks: []tree.Expr{op("call")}}, -1, api.ErrShape},
		{flat.Program{Checks: []tree.Expr{name("x")}}, -1, api.ErrShape},
		{tooBig, -1, api.ErrBound},
		{flat.Program{In: append(sample.Divisions(0).In, tree.Var{Name: "more", Kind: api.Bool})}, -1, api.ErrBound},
		{flat.Program{Checks: []tree.Expr{number(1)}}, -1, api.ErrType},
		{flat.Program{L: []flat.Flow{{Name: "x", Kind: api.Int, E: op("true")}}}, -1, api.ErrType},
		{made(t, ibx, "o = i; x = x + 1; check b;"), 1, api.ErrCycle},
		{made(t, ib, "o = pre i; check b;"), 0, api.ErrFirst},
		{made(t, ibx, "o = 1; x = pre pre i; check b;"), 1, api.ErrFirst},
		{made(t, ib, "o = 1; check pre b;"), -1, api.ErrFirst},
		{made(t, ib, "o = 1; check b; assert 1 / pre i = 1;"), -1, api.ErrFirst},
	} {
		for _, c := range []int{0, -1, -2, 1, 7} {
			refused(t, w.p, c, 3, 100, w.at, w.err)
			refused(t, w.p, c, -3, 100, w.at, w.err)
			refused(t, w.p, c, 3, math.MaxInt, w.at, w.err)
		}
	}
}

func TestP151None(t *testing.T) {
	p := made(t, ib, "o = i / i; check b; check i > 0; assert b;")
	for _, c := range []int{2, 3, -2, -3, 100, math.MaxInt, math.MinInt} {
		for _, depth := range []int{0, 5, 40, 41, -1} {
			for _, effort := range []int{0, 9, api.MaxEffort, api.MaxEffort + 1, -1} {
				refused(t, p, c, depth, effort, -1, api.ErrNone)
			}
		}
	}
	for c, want := range map[int]int{-1: 1, 0: 0, 1: 1} {
		told(t, p, c, 3, 100, want)
	}
	refused(t, flat.Program{}, 0, 3, 100, -1, api.ErrNone)
	told(t, flat.Program{}, -1, 3, 100, 0)
	refused(t, made(t, ib, "o = 1; assert b;"), 0, 3, 100, -1, api.ErrNone)
}

func TestP151Bound(t *testing.T) {
	for _, p := range []flat.Program{
		made(t, ib, "o = i / 2; check b;"),
		made(t, "b: bool) returns (o: bool)", "o = b; check b;"),
		made(t, ib, "o = i; check i < 0 or true;"),
	} {
		for _, c := range []int{-1, 0} {
			for _, bad := range []int{-1, -2, math.MinInt, math.MaxInt} {
				refused(t, p, c, bad, 5, -1, api.ErrBound)
				refused(t, p, c, 5, bad, -1, api.ErrBound)
				refused(t, p, c, bad, bad, -1, api.ErrBound)
			}
			refused(t, p, c, api.MaxDepth+1, 5, -1, api.ErrBound)
			refused(t, p, c, 5, api.MaxEffort+1, -1, api.ErrBound)
			for _, depth := range []int{0, 1, api.MaxDepth} {
				for _, effort := range []int{0, 1, api.MaxEffort} {
					if x, err := Trace(p, c, depth, effort); x.Kind == "" || err != nil {
						t.Errorf("%d, %d, %d: %v, %v", c, depth, effort, x, err)
					}
				}
			}
		}
	}
}

// TestP151Gates: more of them than a graph can have, at one instant.
func TestP151Gates(t *testing.T) {
	p := sample.Divisions(api.MaxFlat)
	p.Checks = []tree.Expr{op("true"), op("false")}
	if _, err := trans.Make(p); err != api.ErrBound {
		t.Fatal(err)
	}
	for _, c := range []int{-1, 0, 1} {
		refused(t, p, c, 1, api.MaxEffort, -1, api.ErrBound)
		refused(t, p, c, api.MaxDepth, 0, -1, api.ErrBound)
	}
	refused(t, p, 2, 1, 1, -1, api.ErrNone)
}

// TestP151GatesOfInstants: too many of all of them; but what is found ahead of that is found, and what nothing hangs on does not count.
func TestP151GatesOfInstants(t *testing.T) {
	p := sample.Heavy(60)
	p.Checks = append(p.Checks, op("or", name("y"), op("=", name("i"), number(77))))
	s, err := trans.Make(p)
	if err != nil || s.G.Gates() > api.MaxGates/2 || s.G.Gates() < api.MaxGates/20 {
		t.Fatal(s.G.Gates(), err)
	}
	told(t, p, 0, 1, 100, 0)
	told(t, p, 0, 2, 100, 0)
	refused(t, p, 0, api.MaxDepth, 100, -1, api.ErrBound)
	told(t, p, 1, api.MaxDepth, 100, 0)
	told(t, p, -1, api.MaxDepth, 100, 0)
	p.Checks[0] = op("and", p.Checks[0], op("fby", op("true"), op("=", name("i"), name("i"))))
	told(t, p, 0, 2, 100, 0)
	p.Checks[0] = op("and", p.Checks[0], op("fby", op("true"), op("<", name("i"), number(5))))
	told(t, p, 0, api.MaxDepth, 100, 2)
}

// TestP1Spoilt: of programs that may be wrong, the errors of flow.Run; of numbers that may be, the first error.
func TestP1Spoilt(t *testing.T) {
	r := rand.New(rand.NewSource(1))
	count := map[int]int{}
	for range 3000 {
		p := sample.Program(drawn(r, 300))
		if r.Intn(2) > 0 {
			sample.Spoil(drawn(r, 20), &p)
		}
		c, depth, effort := r.Intn(5)-2, r.Intn(3), r.Intn(50)
		if r.Intn(3) == 0 {
			depth, effort = depth*r.Intn(40)-1, effort*r.Intn(50000)-1
		}
		_, want := flow.Run(p, nil, false, 0)
		switch {
		case want != nil:
		case c >= len(p.Checks) || c < -1:
			want = api.ErrNone
		case depth < 0 || depth > api.MaxDepth || effort < 0 || effort > api.MaxEffort:
			want = api.ErrBound
		}
		x, err := Trace(p, c, depth, effort)
		code, at := plain.Code(err)
		if wantCode, wantAt := plain.Code(want); code != wantCode || at != wantAt {
			t.Fatalf("%v, %d, %d, %d: %v, want %v", p, c, depth, effort, err, want)
		}
		if !reflect.DeepEqual(x, Found{}) != (err == nil) {
			t.Fatalf("%v with %v", x, err)
		}
		count[code]++
	}
	// fine, bound, shape, type, cycle, first, none
	for code, least := range map[int]int{0: 500, 2: 100, 3: 200, 5: 100, 6: 20, 7: 20, 9: 300} {
		if count[code] < least {
			t.Errorf("only %v", count)
		}
	}
}

// TestP1Great: programs as big and as deep as there are.
func TestP1Great(t *testing.T) {
	i := name("i")
	deep, past, old := i, i, i
	for range api.MaxTerms - 10 {
		deep = op("neg", deep)
	}
	for range (api.MaxTerms - 10) / 2 {
		past = op("fby", number(7), past)
	}
	for range (api.MaxTerms - 10) / 5 {
		old = op("->", number(7), op("pre", op("+", old, i)))
	}
	for n, e := range []tree.Expr{deep, past, old} {
		p := flat.Program{
			In:     []tree.Var{{Name: "i", Kind: api.Int}},
			L:      []flat.Flow{{Name: "o", Kind: api.Int, E: e}},
			Checks: []tree.Expr{op("<>", name("o"), number(9))},
		}
		if err := flat.Check(p); err != nil {
			t.Fatal(err)
		}
		told(t, p, -1, api.MaxDepth, 100, 0)
		told(t, p, 0, api.MaxDepth, 100, []int{1, 0, 2}[n])
	}
}
