package sat

import (
	"errors"
	"slices"
	"testing"

	"lustrum/api"
	"lustrum/cnf"
	"lustrum/rup"
)

// isFault of this kind, at this place, and no error around it.
func isFault(err error, kind error, at int) bool {
	f, ok := err.(*api.Fault)
	return ok && f.At == at && f.Err == kind && errors.Is(err, kind)
}

// holds a formula, variables having such values?
func holds(f cnf.Formula, values []bool) bool {
	for _, c := range f.L {
		if !slices.ContainsFunc(c, func(n int) bool { return n > 0 && values[n-1] || n < 0 && !values[-n-1] }) {
			return false
		}
	}
	return true
}

// bitsOf a number, the lowest first.
func bitsOf(n, bits int) []bool {
	l := make([]bool, bits)
	for i := range l {
		l[i] = n>>i&1 == 1
	}
	return l
}

// modelsOf a formula of few variables, all values being tried.
func modelsOf(f cnf.Formula) int {
	n := 0
	for m := range 1 << f.Vars {
		if holds(f, bitsOf(m, f.Vars)) {
			n++
		}
	}
	return n
}

// right: an answer is what it says, and has no more in it.
func right(t testing.TB, f cnf.Formula, a Answer) {
	t.Helper()
	switch a.Kind {
	case "yes":
		if len(a.Model) != f.Vars || len(a.Proof) != 0 || !holds(f, a.Model) {
			t.Fatalf("%v: %v is no model, or has a proof", f, a.Model)
		}
	case "no":
		if len(a.Model) != 0 || len(a.Proof) > api.MaxClauses || !newChecker(f).takes(a.Proof) || rup.Check(f, a.Proof) != nil {
			t.Fatalf("%v: %v is no proof, or has a model", f, a.Proof)
		}
	case "tired":
		if len(a.Model) != 0 || len(a.Proof) != 0 {
			t.Fatalf("%v: it is tired, and has a model or a proof", f)
		}
	default:
		t.Fatalf("%v: it is %q", f, a.Kind)
	}
}

// solve a formula, which has an answer of this kind.
func solve(t testing.TB, f cnf.Formula, effort int, kind string) Answer {
	t.Helper()
	a, err := Solve(f, effort)
	if a.Kind != kind || err != nil {
		t.Fatalf("%d variables, %d clauses, effort %d: %q, %v, want %q", f.Vars, len(f.L), effort, a.Kind, err, kind)
	}
	right(t, f, a)
	return a
}

// count the models of a formula, which has so many.
func count(t testing.TB, f cnf.Formula, want int) {
	t.Helper()
	for _, most := range []int{want, want + 1, maxCount} {
		if n, err := Count(f, min(most, maxCount)); n != want || err != nil {
			t.Fatalf("%d variables, %d clauses, most %d: %d, %v, want %d", f.Vars, len(f.L), most, n, err, want)
		}
	}
	for _, most := range []int{want - 1, want / 2, 0} {
		if n, err := Count(f, most); most < want && (n != 0 || err != api.ErrBound) {
			t.Fatalf("%d variables, %d clauses, most %d: %d, %v", f.Vars, len(f.L), most, n, err)
		}
	}
}

// checker of proofs, by the document's words: of each clause it knows how many of its numbers are not false. A number that a clause has twice is two of them, so that it takes no more than any reading of the words does.
type checker struct {
	clauses []api.Clause
	left    []int
	at      map[int][]int // of each number the clauses that have it, as often as they do
	units   []int         // clauses that have at most one number
	set     map[int]bool  // numbers that are true
}

func newChecker(f cnf.Formula) *checker {
	k := &checker{at: map[int][]int{}, set: map[int]bool{}}
	for _, c := range f.L {
		k.add(c)
	}
	return k
}

func (k *checker) add(c api.Clause) {
	n := len(k.clauses)
	k.clauses, k.left = append(k.clauses, c), append(k.left, len(c))
	for _, x := range c {
		k.at[x] = append(k.at[x], n)
	}
	if len(c) < 2 {
		k.units = append(k.units, n)
	}
}

// takes a proof?
func (k *checker) takes(proof []api.Clause) bool {
	for _, c := range proof {
		if !k.follows(c) {
			return false
		}
		k.add(c)
	}
	return slices.ContainsFunc(proof, func(c api.Clause) bool { return len(c) == 0 })
}

// follows a clause by units?
func (k *checker) follows(c api.Clause) bool {
	var trail []int
	defer func() {
		for _, x := range trail {
			delete(k.set, x)
			for _, n := range k.at[-x] {
				k.left[n]++
			}
		}
	}()
	clash := false
	work := slices.Clone(k.units)
	hold := func(x int) {
		if clash = clash || k.set[-x]; clash || k.set[x] {
			return
		}
		k.set[x] = true
		trail = append(trail, x)
		for _, n := range k.at[-x] {
			k.left[n]--
			if k.left[n] < 2 {
				work = append(work, n)
			}
		}
	}
	for _, x := range c {
		hold(-x)
	}
	for !clash && len(work) > 0 {
		n := work[0]
		work = work[1:]
		if k.left[n] == 0 {
			return true
		}
		isOpen := func(x int) bool { return !k.set[-x] }
		hold(k.clauses[n][slices.IndexFunc(k.clauses[n], isOpen)])
	}
	return clash
}
