package judge

import (
	"math"
	"math/rand"
	"reflect"
	"strconv"
	"testing"

	"lustrum/api"
	"lustrum/flat"
	"lustrum/flow"
	"lustrum/plain"
	"lustrum/sample"
	"lustrum/trans"
	"lustrum/tree"
)

// refused holds One to an error, with nothing beside it.
func refused(t testing.TB, p flat.Program, c, depth, effort, at int, want error) {
	t.Helper()
	v, err := One(p, c, depth, effort)
	told(t, err, at, want)
	if !reflect.DeepEqual(v, Verdict{}) {
		t.Errorf("%d, %d, %d: %v with %v", c, depth, effort, v, err)
	}
}

// allRefused holds All to an error, with nothing beside it.
func allRefused(t testing.TB, p flat.Program, depth, effort, at int, want error) {
	t.Helper()
	l, err := All(p, depth, effort)
	told(t, err, at, want)
	if len(l) > 0 {
		t.Errorf("%d, %d: %v with %v", depth, effort, l, err)
	}
}

// programs that are wrong: each with its error, and its place.
type wrongProgram struct {
	p   flat.Program
	at  int
	err error
}

func wrongPrograms(t testing.TB) []wrongProgram {
	tooBig := flat.Program{L: make([]flat.Flow, api.MaxFlat+1)}
	for i := range tooBig.L {
		tooBig.L[i] = flat.Flow{Name: strconv.Itoa(i), Kind: api.Bool, E: op("true")}
	}
	return []wrongProgram{
		{flat.Program{Out: []string{"x"}}, -1, api.ErrShape},
		{flat.Program{L: []flat.Flow{{Name: "x", Kind: 3}}}, -1, api.ErrShape},
		{flat.Program{In: make([]tree.Var, 1)}, -1, api.ErrShape},
		{flat.Program{Checks: make([]tree.Expr, 1)}, -1, api.ErrShape},
		{flat.Program{Checks: []tree.Expr{op("call")}}, -1, api.ErrShape},
		{flat.Program{Checks: []tree.Expr{name("x")}}, -1, api.ErrShape},
		{tooBig, -1, api.ErrBound},
		{flat.Program{In: append(sample.Divisions(0).In, tree.Var{Name: "more", Kind: api.Bool})}, -1, api.ErrBound},
		{flat.Program{Checks: []tree.Expr{number(1)}}, -1, api.ErrType},
		{flat.Program{L: []flat.Flow{{Name: "x", Kind: api.Int, E: op("true")}}}, -1, api.ErrType},
		{made(t, ibx, "o = i; x = x + 1; check b;"), 1, api.ErrCycle},
		{made(t, ib, "o = pre i; check b;"), 0, api.ErrFirst},
		{made(t, ibx, "o = 1; x = pre pre i; check b;"), 1, api.ErrFirst},
		{made(t, ib, "o = 1; check pre b;"), -1, api.ErrFirst},
		{made(t, ib, "o = 1; check b; assert 1 / pre i = 1;"), -1, api.ErrFirst},
	}
}

// TestP170Programs: what is wrong with a program is told ahead of all else.
func TestP170Programs(t *testing.T) {
	for _, w := range wrongPrograms(t) {
		for _, depth := range []int{3, 0, -3, api.MaxDepth + 1, math.MaxInt} {
			for _, effort := range []int{100, -1, math.MaxInt} {
				for _, c := range []int{0, -1, -2, 1, 7} {
					refused(t, w.p, c, depth, effort, w.at, w.err)
				}
				allRefused(t, w.p, depth, effort, w.at, w.err)
			}
		}
	}
}

func TestP170None(t *testing.T) {
	p := made(t, ib, "o = i / (i + i + 1); check b or not b; check i > 0; assert b;")
	for _, c := range []int{2, 3, -2, -3, 100, math.MaxInt, math.MinInt} {
		for _, depth := range []int{0, 1, 5, 40, 41, -1} {
			for _, effort := range []int{0, 9, api.MaxEffort, api.MaxEffort + 1, -1} {
				refused(t, p, c, depth, effort, -1, api.ErrNone)
			}
		}
	}
	judged(t, p, -1, 3, 1000, "safe", 1)
	judged(t, p, 0, 3, 1000, "safe", 1)
	judged(t, p, 1, 3, 1000, "wrong", 1)
	refused(t, flat.Program{}, 0, 3, 100, -1, api.ErrNone)
	judged(t, flat.Program{}, -1, 3, 0, "safe", 1)
}

// TestP170Bound: also where what is asked for could be told without.
func TestP170Bound(t *testing.T) {
	for _, p := range []flat.Program{
		made(t, ib, "o = i / 2; check b;"),
		made(t, "b: bool) returns (o: bool)", "o = b; check b or not b;"),
		made(t, ib, "o = 1 / 0; check false;"),
		{Checks: []tree.Expr{op("true")}},
	} {
		for _, bad := range []int{-1, -2, math.MinInt, math.MaxInt} {
			for _, c := range []int{-1, 0} {
				refused(t, p, c, bad, 5, -1, api.ErrBound)
				refused(t, p, c, 5, bad, -1, api.ErrBound)
				refused(t, p, c, bad, bad, -1, api.ErrBound)
				refused(t, p, c, 0, 5, -1, api.ErrBound)
				refused(t, p, c, api.MaxDepth+1, 5, -1, api.ErrBound)
				refused(t, p, c, 5, api.MaxEffort+1, -1, api.ErrBound)
			}
			allRefused(t, p, bad, 5, -1, api.ErrBound)
			allRefused(t, p, 5, bad, -1, api.ErrBound)
		}
		allRefused(t, p, 0, 5, -1, api.ErrBound)
		allRefused(t, p, api.MaxDepth+1, 5, -1, api.ErrBound)
		allRefused(t, p, 5, api.MaxEffort+1, -1, api.ErrBound)
		for _, depth := range []int{1, api.MaxDepth} {
			for _, effort := range []int{0, 1, api.MaxEffort} {
				all(t, p, depth, effort)
			}
		}
	}
}

// TestP170Gates: more of them than a graph can have, at one instant.
func TestP170Gates(t *testing.T) {
	p := sample.Divisions(api.MaxFlat)
	p.Checks = []tree.Expr{op("true"), op("false")}
	if _, err := trans.Make(p); err != api.ErrBound {
		t.Fatal(err)
	}
	for _, depth := range []int{1, api.MaxDepth} {
		for _, c := range []int{-1, 0, 1} {
			refused(t, p, c, depth, api.MaxEffort, -1, api.ErrBound)
		}
		allRefused(t, p, depth, 0, -1, api.ErrBound)
	}
	refused(t, p, 2, 1, 1, -1, api.ErrNone)
	// Verdicts that need no gates are right, or not, all the same.
	l := []Verdict{{Kind: unknown}, {Kind: unknown}, {Kind: wrong}}
	told(t, Check(p, l), 2, api.ErrProof)
	for range api.MaxParts {
		l[2].Trace = append(l[2].Trace, nil)
	}
	told(t, Check(p, l), 2, api.ErrProof)
	var ones []api.Value
	for range api.MaxParts {
		ones = append(ones, whole(1))
	}
	l[2].Trace = [][]api.Value{ones}
	told(t, Check(p, l), -1, nil)
	l[1].Kind, l[1].Proof.K = safe, 1
	told(t, Check(p, l), 1, api.ErrBound)
}

// same errors, at the same place?
func same(t testing.TB, got, want error) {
	t.Helper()
	code, at := plain.Code(got)
	if wantCode, wantAt := plain.Code(want); code != wantCode || at != wantAt {
		t.Fatalf("%v, want %v", got, want)
	}
}

// TestP1Spoilt: of programs that may be wrong, the errors of flow.Run; of numbers that may be, the first error.
func TestP1Spoilt(t *testing.T) {
	t.Parallel()
	r := rand.New(rand.NewSource(1))
	count := map[int]int{}
	for range 2000 {
		p := sample.Program(drawn(r, 300))
		if r.Intn(2) > 0 {
			sample.Spoil(drawn(r, 20), &p)
		}
		c, depth, effort := r.Intn(5)-2, r.Intn(4), r.Intn(50)
		if r.Intn(3) == 0 {
			depth, effort = depth*50-1, effort*r.Intn(50000)-1
		}
		_, want := flow.Run(p, nil, false, 0)
		wantAll := want
		isBound := depth < 1 || depth > api.MaxDepth || effort < 0 || effort > api.MaxEffort
		switch {
		case want != nil:
		case c >= len(p.Checks) || c < -1:
			want = api.ErrNone
		case isBound:
			want = api.ErrBound
		}
		if wantAll == nil && isBound {
			wantAll = api.ErrBound
		}
		v, err := One(p, c, depth, effort)
		same(t, err, want)
		if err != nil && !reflect.DeepEqual(v, Verdict{}) || err == nil && !isRight(t, p, c, v) {
			t.Fatalf("%v with %v", v, err)
		}
		l, errAll := All(p, depth, effort)
		same(t, errAll, wantAll)
		if len(l) > 0 != (errAll == nil) {
			t.Fatalf("%v with %v", l, errAll)
		}
		if errAll == nil {
			told(t, Check(p, l), -1, nil)
		}
		code, _ := plain.Code(err)
		count[code]++
	}
	// fine, bound, shape, type, cycle, first, none
	for code, least := range map[int]int{0: 150, 2: 150, 3: 300, 5: 50, 6: 15, 7: 50, 9: 300} {
		if count[code] < least {
			t.Errorf("only %v", count)
		}
	}
}
