package prove

import (
	"math"
	"math/rand"
	"reflect"
	"strconv"
	"testing"

	"lustrum/api"
	"lustrum/flat"
	"lustrum/flow"
	"lustrum/plain"
	"lustrum/sample"
	"lustrum/trans"
	"lustrum/tree"
)

// told holds an error to what it must be; at -1: a bare one.
func told(t testing.TB, err error, at int, want error) {
	t.Helper()
	if at < 0 {
		if err != want {
			t.Errorf("%#v, want %v", err, want)
		}
		return
	}
	if f, ok := err.(*api.Fault); !ok || f.At != at || f.Err != want {
		t.Errorf("%#v, want %v at %d", err, want, at)
	}
}

// refused holds all three to an error, with nothing beside it. Of Formulas and Check there is no effort.
func refused(t testing.TB, p flat.Program, c, k, effort, at int, want error) {
	t.Helper()
	x, ok, err := Induction(p, c, k, effort)
	told(t, err, at, want)
	if ok || !reflect.DeepEqual(x, Proof{}) {
		t.Errorf("%d, %d, %d: %v, %v with %v", c, k, effort, x, ok, err)
	}
	if effort >= 0 && effort <= api.MaxEffort {
		refusedFormulas(t, p, c, k, at, want)
	}
}

func refusedFormulas(t testing.TB, p flat.Program, c, k, at int, want error) {
	t.Helper()
	base, step, err := Formulas(p, c, k)
	told(t, err, at, want)
	if base.Vars+step.Vars+len(base.L)+len(step.L) > 0 {
		t.Errorf("%d, %d: formulas with %v", c, k, err)
	}
	told(t, Check(p, c, Proof{K: k}), at, want)
	told(t, Check(p, c, Proof{k, []api.Clause{{}}, []api.Clause{{0}}}), at, want)
}

// TestP162Programs: what is wrong with a program is told ahead of all else.
func TestP162Programs(t *testing.T) {
	tooBig := flat.Program{L: make([]flat.Flow, api.MaxFlat+1)}
	for i := range tooBig.L {
		tooBig.L[i] = flat.Flow{Name: strconv.Itoa(i), Kind: api.Bool, E: op("true")}
	}
	for _, w := range []struct {
		p   flat.Program
		at  int
		err error
	}{
		{flat.Program{Out: []string{"x"}}, -1, api.ErrShape},
		{flat.Program{L: []flat.Flow{{Name: "x", Kind: 3}}}, -1, api.ErrShape},
		{flat.Program{In: make([]tree.Var, 1)}, -1, api.ErrShape},
		{flat.Program{Checks: make([]tree.Expr, 1)}, -1, api.ErrShape},
		{flat.Program{Checks: []tree.Expr{op("call")}}, -1, api.ErrShape},
		{flat.Program{Checks: []tree.Expr{name("x")}}, -1, api.ErrShape},
		{tooBig, -1, api.ErrBound},
		{flat.Program{In: append(sample.Divisions(0).In, tree.Var{Name: "more", Kind: api.Bool})}, -1, api.ErrBound},
		{flat.Program{Checks: []tree.Expr{number(1)}}, -1, api.ErrType},
		{flat.Program{L: []flat.Flow{{Name: "x", Kind: api.Int, E: op("true")}}}, -1, api.ErrType},
		{made(t, ibx, "o = i; x = x + 1; check b;"), 1, api.ErrCycle},
		{made(t, ib, "o = pre i; check b;"), 0, api.ErrFirst},
		{made(t, ibx, "o = 1; x = pre pre i; check b;"), 1, api.ErrFirst},
		{made(t, ib, "o = 1; check pre b;"), -1, api.ErrFirst},
		{made(t, ib, "o = 1; check b; assert 1 / pre i = 1;"), -1, api.ErrFirst},
	} {
		for _, c := range []int{0, -1, -2, 1, 7} {
			for _, k := range []int{3, 0, -3, math.MaxInt} {
				refused(t, w.p, c, k, 100, w.at, w.err)
				refused(t, w.p, c, k, math.MaxInt, w.at, w.err)
			}
		}
	}
}

func TestP162None(t *testing.T) {
	p := made(t, ib, "o = i / (i + i + 1); check b or not b; check i > 0; assert b;")
	for _, c := range []int{2, 3, -2, -3, 100, math.MaxInt, math.MinInt} {
		for _, k := range []int{0, 1, 5, 40, 41, -1} {
			for _, effort := range []int{0, 9, api.MaxEffort, api.MaxEffort + 1, -1} {
				refused(t, p, c, k, effort, -1, api.ErrNone)
			}
		}
	}
	for c, want := range map[int]int{-1: 1, 0: 1, 1: 0} {
		proved(t, p, c, 3, 1000, want)
	}
	refused(t, flat.Program{}, 0, 3, 100, -1, api.ErrNone)
	proved(t, flat.Program{}, -1, 3, 0, 1)
	refused(t, made(t, ib, "o = 1; assert b;"), 0, 3, 100, -1, api.ErrNone)
}

func TestP162Bound(t *testing.T) {
	for _, p := range []flat.Program{
		made(t, ib, "o = i / 2; check b;"),
		made(t, "b: bool) returns (o: bool)", "o = b; check b;"),
		made(t, ib, "o = i; check i < 0 or true;"),
	} {
		for _, c := range []int{-1, 0} {
			for _, bad := range []int{-1, -2, math.MinInt, math.MaxInt} {
				refused(t, p, c, bad, 5, -1, api.ErrBound)
				refused(t, p, c, 5, bad, -1, api.ErrBound)
				refused(t, p, c, bad, bad, -1, api.ErrBound)
			}
			refused(t, p, c, 0, 5, -1, api.ErrBound)
			refused(t, p, c, api.MaxDepth+1, 5, -1, api.ErrBound)
			refused(t, p, c, 5, api.MaxEffort+1, -1, api.ErrBound)
			for _, most := range []int{1, api.MaxDepth} {
				for _, effort := range []int{0, 1, api.MaxEffort} {
					x, ok, err := Induction(p, c, most, effort)
					if err != nil {
						t.Errorf("%d, %d, %d: %v", c, most, effort, err)
					}
					isRight(t, p, c, x, ok)
				}
				formulas(t, p, c, most)
			}
		}
	}
}

// TestP162Gates: more of them than a graph can have, at one instant.
func TestP162Gates(t *testing.T) {
	p := sample.Divisions(api.MaxFlat)
	p.Checks = []tree.Expr{op("true"), op("false")}
	if _, err := trans.Make(p); err != api.ErrBound {
		t.Fatal(err)
	}
	for _, c := range []int{-1, 0, 1} {
		refused(t, p, c, 1, api.MaxEffort, -1, api.ErrBound)
		refused(t, p, c, api.MaxDepth, 0, -1, api.ErrBound)
	}
	refused(t, p, 2, 1, 1, -1, api.ErrNone)
}

// TestP162GatesOfInstants: too many of all of them; but what is told of fewer is told.
func TestP162GatesOfInstants(t *testing.T) {
	p := sample.Heavy(60)
	p.Checks = append(p.Checks, op("=", name("x"), number(77)))
	s, err := trans.Make(p)
	if err != nil || s.G.Gates() > api.MaxGates/2 || s.G.Gates() < api.MaxGates/20 {
		t.Fatal(s.G.Gates(), err)
	}
	for _, k := range []int{30, api.MaxDepth} {
		refusedFormulas(t, p, 0, k, -1, api.ErrBound)
		refusedFormulas(t, p, 1, k, -1, api.ErrBound)
	}
	// b was true, by the asserts.
	proved(t, p, 0, 1, 1000, 1)
	proved(t, p, 0, api.MaxDepth, 1000, 1)
	// That it is wrong at once is seen of one instant.
	proved(t, p, 1, 1, 1000, 0)
	proved(t, p, 1, api.MaxDepth, 1000, 0)
	// There is no trap.
	proved(t, p, -1, api.MaxDepth, 0, 1)
	formulas(t, p, -1, api.MaxDepth)
	// Where z was true it could go on, until there are too many gates.
	p.L = append(p.L, flat.Flow{Name: "z", Kind: api.Bool, E: op("fby", op("false"), name("z"))})
	p.Checks[0] = op("not", op("and", name("z"), op("=", name("i"), number(5))))
	proved(t, p, 0, 2, api.MaxEffort, 0)
	refused(t, p, 0, api.MaxDepth, api.MaxEffort, -1, api.ErrBound)
}

// TestP162Clauses: more of them than a formula can have, since there are many memories.
func TestP162Clauses(t *testing.T) {
	past := op("=", name("i"), number(5))
	for range 300 {
		past = op("fby", op("true"), past)
	}
	p := flat.Program{In: []tree.Var{{Name: "i", Kind: api.Int}, {Name: "b", Kind: api.Bool}}, Checks: []tree.Expr{past}}
	for n := range 300 {
		p.L = append(p.L, flat.Flow{Name: strconv.Itoa(n), Kind: api.Int, E: op("fby", number(n%99), op("+", name(strconv.Itoa(n)), name("i")))})
	}
	formulas(t, p, 0, 5)
	refusedFormulas(t, p, 0, 20, -1, api.ErrBound)
	refusedFormulas(t, p, 0, api.MaxDepth, -1, api.ErrBound)
}

// TestP161Check: proofs that are none, of Base ahead of Step.
func TestP161Check(t *testing.T) {
	p := made(t, "u: bool; v: bool) returns (a: bool; b: bool)", "a = true fby (b or (u xor v xor u)); b = true fby (a and (v or not v)); check a or b; check a;")
	x := proved(t, p, 0, 5, api.MaxEffort, 1)
	w := made(t, "i: int; j: int) returns (o: int)", "o = (i + j) * 3; check o = i * 3 + j * 3;")
	y := proved(t, w, 0, 5, api.MaxEffort, 1)
	if len(y.Base) < 20 || len(y.Step) < 20 {
		t.Fatal(y)
	}
	end := api.Clause{}
	follows := func(l []api.Clause) []api.Clause { return append(append([]api.Clause{}, l...), api.Clause{1}, end) }
	long := make([]api.Clause, api.MaxClauses+1)
	for n, c := range []struct {
		p   flat.Program
		x   Proof
		at  int
		err error
	}{
		{p, x, -1, nil},
		{w, y, -1, nil},
		{w, Proof{y.K, follows(y.Base), follows(y.Step)}, -1, nil},
		{w, Proof{y.K, nil, y.Step}, -1, api.ErrProof},
		{w, Proof{y.K, y.Base, nil}, -1, api.ErrProof},
		{w, Proof{y.K, []api.Clause{}, []api.Clause{{0}}}, -1, api.ErrProof},
		{w, Proof{y.K, y.Base[:len(y.Base)-1], y.Step}, -1, api.ErrProof},
		{w, Proof{y.K, y.Base, y.Step[:len(y.Step)-1]}, -1, api.ErrProof},
		{w, Proof{y.K, []api.Clause{end}, y.Step}, 0, api.ErrProof},
		{w, Proof{y.K, y.Base, []api.Clause{end}}, 0, api.ErrProof},
		{w, Proof{y.K, []api.Clause{{0}}, y.Step}, 0, api.ErrShape},
		{w, Proof{y.K, []api.Clause{{1, -1}, {api.MaxVars + 1}}, []api.Clause{{0}}}, 1, api.ErrShape},
		{w, Proof{y.K, y.Base, []api.Clause{{1, -1}, {-1, 1}, {-api.MaxVars - 1}, end}}, 2, api.ErrShape},
		{w, Proof{y.K, []api.Clause{{0}}, long}, 0, api.ErrShape},
		{w, Proof{y.K, long, []api.Clause{{0}}}, -1, api.ErrBound},
		{w, Proof{y.K, y.Base, long}, -1, api.ErrBound},
		{w, Proof{0, y.Base, y.Step}, -1, api.ErrBound},
		{w, Proof{-1, y.Base, y.Step}, -1, api.ErrBound},
		{w, Proof{api.MaxDepth + 1, nil, nil}, -1, api.ErrBound},
		{w, Proof{math.MaxInt, y.Base, y.Step}, -1, api.ErrBound},
		{w, Proof{math.MinInt, y.Base, y.Step}, -1, api.ErrBound},
	} {
		t.Run(strconv.Itoa(n), func(t *testing.T) { told(t, Check(c.p, 0, c.x), c.at, c.err) })
	}
	told(t, Check(p, 2, x), -1, api.ErrNone)
	told(t, Check(p, -2, x), -1, api.ErrNone)
	told(t, Check(p, 2, Proof{}), -1, api.ErrNone)
	told(t, Check(made(t, ib, "o = pre i; check b;"), 0, x), 0, api.ErrFirst)
}

// TestP161Others: what is proved of one thing is no proof of another.
func TestP161Others(t *testing.T) {
	wrong := made(t, ib, "o = i * (i + 1); check o <> 12; check o mod 2 = 0; check o < 100 or b;")
	x := proved(t, wrong, 1, 5, api.MaxEffort, 1)
	for _, c := range []int{0, 2} {
		proved(t, wrong, c, 5, api.MaxEffort, 0)
		for k := 1; k < 4; k++ {
			for _, l := range [][]api.Clause{x.Base, x.Step, {{}}} {
				if err := Check(wrong, c, Proof{k, l, l}); err == nil {
					t.Errorf("%d, %d: %v is proved", c, k, l)
				}
			}
		}
	}
	// Of fewer instants than are needed the step is none.
	p := made(t, bcxy, "x = true fby o; y = true fby x; o = true fby (y or c); check o;")
	y := proved(t, p, 0, 5, api.MaxEffort, 3)
	for k := 1; k < 3; k++ {
		y.K = k
		if err := Check(p, 0, y); err == nil {
			t.Errorf("%d is enough", k)
		}
	}
}

// TestP161Tired: with little effort nothing is told of what is hard.
func TestP161Tired(t *testing.T) {
	t.Parallel()
	p := made(t, "i: int; j: int) returns (o: int); var x: int; y: int", "x = i * j; y = j * i; o = 0 -> pre o + 1; check x = y; check x = y or o < 0; check true -> pre x = pre y;")
	for c := range 3 {
		proved(t, p, c, 3, 20, 0)
		proved(t, p, c, 3, 0, 0)
	}
	proved(t, p, 0, 3, api.MaxEffort, 1)
}

// TestP1Spoilt: of programs that may be wrong, the errors of flow.Run; of numbers that may be, the first error.
func TestP1Spoilt(t *testing.T) {
	r := rand.New(rand.NewSource(1))
	count := map[int]int{}
	for range 3000 {
		p := sample.Program(drawn(r, 300))
		if r.Intn(2) > 0 {
			sample.Spoil(drawn(r, 20), &p)
		}
		c, k, effort := r.Intn(5)-2, r.Intn(3), r.Intn(50)
		if r.Intn(3) == 0 {
			k, effort = k*r.Intn(40)-1, effort*r.Intn(50000)-1
		}
		_, want := flow.Run(p, nil, false, 0)
		switch {
		case want != nil:
		case c >= len(p.Checks) || c < -1:
			want = api.ErrNone
		case k < 1 || k > api.MaxDepth || effort < 0 || effort > api.MaxEffort:
			want = api.ErrBound
		}
		x, ok, err := Induction(p, c, min(k, 3), min(effort, 1000))
		if effort > api.MaxEffort || k > api.MaxDepth {
			x, ok, err = Induction(p, c, k, effort)
		}
		code, at := plain.Code(err)
		if wantCode, wantAt := plain.Code(want); code != wantCode || at != wantAt {
			t.Fatalf("%v, %d, %d, %d: %v, want %v", p, c, k, effort, err, want)
		}
		isRight(t, p, c, x, ok)
		count[code]++
	}
	// fine, bound, shape, type, cycle, first, none
	for code, least := range map[int]int{0: 300, 2: 100, 3: 200, 5: 100, 6: 20, 7: 20, 9: 300} {
		if count[code] < least {
			t.Errorf("only %v", count)
		}
	}
}

// TestP1Great: programs as big and as deep as there are.
func TestP1Great(t *testing.T) {
	t.Parallel()
	i := name("i")
	deep, past, old := i, i, i
	for range api.MaxTerms - 10 {
		deep = op("neg", deep)
	}
	for range (api.MaxTerms - 10) / 2 {
		past = op("fby", number(7), past)
	}
	for range (api.MaxTerms - 10) / 5 {
		old = op("->", number(7), op("pre", op("+", old, i)))
	}
	for n, e := range []tree.Expr{deep, past, old} {
		p := flat.Program{
			In:     []tree.Var{{Name: "i", Kind: api.Int}},
			L:      []flat.Flow{{Name: "o", Kind: api.Int, E: e}},
			Checks: []tree.Expr{op("<>", name("o"), number(9))},
		}
		if err := flat.Check(p); err != nil {
			t.Fatal(err)
		}
		proved(t, p, -1, api.MaxDepth, 100, 1)
		if n == 1 {
			// Many memories keep what is wrong for later, but only so many can be unlike.
			proved(t, p, 0, 2, 1000, 0)
			refused(t, p, 0, api.MaxDepth, 1000, -1, api.ErrBound)
			continue
		}
		proved(t, p, 0, api.MaxDepth, 1000, 0)
	}
}
