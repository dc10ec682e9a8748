package prove

import (
	"math/rand"
	"slices"
	"strconv"
	"strings"
	"testing"

	"lustrum/api"
	"lustrum/cnf"
	"lustrum/flat"
	"lustrum/rup"
	"lustrum/sat"
	"lustrum/tree"
)

func drawn(r *rand.Rand, n int) []byte {
	l := make([]byte, n)
	r.Read(l)
	return l
}

// made of a head, up to what is declared, and of equations.
func made(t testing.TB, head, s string) flat.Program {
	t.Helper()
	l, err := tree.Read("node n(" + head + "; let " + s + " tel")
	if err != nil {
		t.Fatal(head, s, err)
	}
	p, err := flat.Make(l, "n")
	if err != nil {
		t.Fatal(head, s, err)
	}
	return p
}

func text(t testing.TB, p flat.Program) string {
	t.Helper()
	s, err := flat.Text(p)
	if err != nil {
		t.Fatalf("%v: %v", p, err)
	}
	return s
}

func formulas(t testing.TB, p flat.Program, c, k int) (base, step cnf.Formula) {
	t.Helper()
	base, step, err := Formulas(p, c, k)
	if err != nil {
		t.Fatalf("%s%d, %d: %v", text(t, p), c, k, err)
	}
	for _, f := range []cnf.Formula{base, step} {
		if err := cnf.Check(f); err != nil {
			t.Fatalf("%s%d, %d: %v", text(t, p), c, k, err)
		}
	}
	return base, step
}

func holds(t testing.TB, f cnf.Formula) bool {
	t.Helper()
	a, err := sat.Solve(f, api.MaxEffort)
	if err != nil || a.Kind == "tired" {
		t.Fatal(a.Kind, err)
	}
	return a.Kind == "yes"
}

// proved holds Induction to the least number that proves; 0: there is none.
func proved(t testing.TB, p flat.Program, c, most, effort, want int) Proof {
	t.Helper()
	x, ok, err := Induction(p, c, most, effort)
	if x.K != want || ok != (want > 0) || err != nil {
		t.Fatalf("%scheck %d, most %d: %d, %v, %v, want %d", text(t, p), c, most, x.K, ok, err, want)
	}
	isRight(t, p, c, x, ok)
	return x
}

// isRight what Induction answers? A proof is one, by each of its ways; else there is nothing.
func isRight(t testing.TB, p flat.Program, c int, x Proof, ok bool) {
	t.Helper()
	if !ok {
		if x.K != 0 || len(x.Base)+len(x.Step) > 0 {
			t.Fatalf("%s%d: %v", text(t, p), c, x)
		}
		return
	}
	if err := Check(p, c, x); err != nil {
		t.Fatalf("%s%d: %d: %v", text(t, p), c, x.K, err)
	}
	base, step := formulas(t, p, c, x.K)
	if b, s := rup.Check(base, x.Base), rup.Check(step, x.Step); b != nil || s != nil {
		t.Fatalf("%s%d: %d: %v, %v", text(t, p), c, x.K, b, s)
	}
}

func op(s string, l ...tree.Expr) tree.Expr { return tree.Expr{Op: s, L: l} }

func name(s string) tree.Expr { return tree.Expr{Op: "name", S: s} }

func number(n int) tree.Expr { return tree.Expr{Op: "int", N: n} }

// bools: names of so many inputs.
func bools(n int) []string {
	var l []string
	for i := range n {
		l = append(l, "i"+strconv.Itoa(i))
	}
	return l
}

func shuffled(r *rand.Rand, l []string) []string {
	l = slices.Clone(l)
	r.Shuffle(len(l), func(i, j int) { l[i], l[j] = l[j], l[i] })
	return l
}

// parities: each of so many memories keeps whether so far an odd number of inputs were true, each by another order of them; the check is that they agree.
func parities(t testing.TB, memories, inputs int) flat.Program {
	t.Helper()
	r := rand.New(rand.NewSource(1))
	head := strings.Join(bools(inputs), ": bool; ") + ": bool) returns (m0: bool"
	s, check := "", "check true"
	for i := range memories {
		m := "m" + strconv.Itoa(i)
		if i > 0 {
			head += "; " + m + ": bool"
		}
		s += m + " = false fby (" + m + " xor " + strings.Join(shuffled(r, bools(inputs)), " xor ") + "); "
		check += " and m0 = " + m
	}
	return made(t, head+")", s+check+";")
}

// free: so many memories that are what their inputs were, and x, which never becomes true; where it was, what is wrong could come behind all that the others can be.
func free(t testing.TB, n int) flat.Program {
	t.Helper()
	var out, eqs []string
	for i, in := range bools(n) {
		m := "m" + strconv.Itoa(i)
		out, eqs = append(out, m+": bool; "), append(eqs, m+" = false fby "+in+"; ")
	}
	return made(t, strings.Join(bools(n), ": bool; ")+": bool; u: bool) returns ("+strings.Join(out, "")+"x: bool)", strings.Join(eqs, "")+"x = false fby x; check not (x and u);")
}

func alike(f, g cnf.Formula) bool {
	return f.Vars == g.Vars && slices.EqualFunc(f.L, g.L, func(a, b api.Clause) bool { return slices.Equal(a, b) })
}

// renamed names of a term.
func renamed(e tree.Expr, names map[string]string) tree.Expr {
	if s, ok := names[e.S]; ok {
		e.S = s
	}
	l := slices.Clone(e.L)
	for i, x := range l {
		l[i] = renamed(x, names)
	}
	e.L = l
	return e
}
