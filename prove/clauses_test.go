package prove

import (
	"math/rand"
	"slices"
	"testing"

	"lustrum/api"
	"lustrum/cnf"
	"lustrum/graph"
)

// truth of a formula by all that its variables can be: is there a way, these being so?
func can(t testing.TB, f cnf.Formula, so ...int) bool {
	t.Helper()
	if f.Vars > 14 {
		t.Fatal(f.Vars)
	}
	is := func(n, values int) bool { return values>>(max(n, -n)-1)&1 == 1 == (n > 0) }
	for values := range 1 << f.Vars {
		all := !slices.ContainsFunc(so, func(n int) bool { return !is(n, values) })
		if all && !slices.ContainsFunc(f.L, func(c api.Clause) bool {
			return !slices.ContainsFunc(c, func(n int) bool { return is(n, values) })
		}) {
			return true
		}
	}
	return false
}

// inputs of a graph: clauses of nothing but these.
func inputs(t testing.TB, n int) (*clauses, []api.Lit) {
	t.Helper()
	g := new(graph.Graph)
	var l []api.Lit
	for range n {
		x, err := g.Input()
		if err != nil {
			t.Fatal(err)
		}
		l = append(l, x)
	}
	return clausesOf(g, nil, l), l
}

// valuesOf so many inputs, each way they can be.
func valuesOf(n int, see func(so []int, value func(api.Lit) bool)) {
	for values := range 1 << n {
		so := make([]int, n)
		for i := range so {
			so[i] = i + 1
			if values>>i&1 == 0 {
				so[i] = -i - 1
			}
		}
		see(so, func(x api.Lit) bool { return x > 1 && values>>(x/2-1)&1 == 1 != (x&1 == 1) || x == 1 })
	}
}

// TestUnlike: just where one of their bits is.
func TestUnlike(t *testing.T) {
	r := rand.New(rand.NewSource(5))
	empty, sure := 0, 0
	for range 400 {
		n := 1 + r.Intn(4)
		f, l := inputs(t, n)
		some := func() []api.Lit {
			var out []api.Lit
			for range n {
				out = append(out, append(l, 0)[r.Intn(n+1)]^api.Lit(r.Intn(2)))
			}
			return out
		}
		a, b := some(), some()
		f.unlike(a, b)
		if len(f.L) > 0 && len(f.L[len(f.L)-1]) == 0 {
			empty++
		}
		if len(f.L) == 0 {
			sure++
		}
		valuesOf(n, func(so []int, value func(api.Lit) bool) {
			want := false
			for i := range a {
				want = want || value(a[i]) != value(b[i])
			}
			if got := can(t, f.Formula, so...); got != want {
				t.Fatalf("%v, %v at %v: %v by %v", a, b, so, got, f.Formula)
			}
		})
	}
	if empty < 5 || sure < 20 {
		t.Errorf("only %d, %d", empty, sure)
	}
}

// TestBegin: with a first bit that is false all others may be; else they are those of the beginning.
func TestBegin(t *testing.T) {
	for _, init := range [][]bool{{true}, {true, false}, {true, false, false, false}, {true, true, false}} {
		f, l := inputs(t, len(init))
		f.begin(l, init)
		valuesOf(len(init), func(so []int, value func(api.Lit) bool) {
			same := true
			for i, is := range init {
				same = same && value(l[i]) == is
			}
			if got := can(t, f.Formula, so...); got != (same || !value(l[0])) {
				t.Fatalf("%v at %v: %v", init, so, got)
			}
		})
	}
}
