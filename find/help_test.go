package find

import (
	"math/rand"
	"slices"
	"strconv"
	"strings"
	"testing"

	"lustrum/api"
	"lustrum/flat"
	"lustrum/flow"
	"lustrum/tree"
)

func whole(n int) api.Value { return api.Value{Kind: api.Int, N: n} }

func bit(n int) api.Value { return api.Value{Kind: api.Bool, N: n} }

func values(l ...api.Value) []api.Value { return l }

func drawn(r *rand.Rand, n int) []byte {
	l := make([]byte, n)
	r.Read(l)
	return l
}

// made of a head, up to what is declared, and of equations.
func made(t testing.TB, head, s string) flat.Program {
	t.Helper()
	l, err := tree.Read("node n(" + head + "; let " + s + " tel")
	if err != nil {
		t.Fatal(head, s, err)
	}
	p, err := flat.Make(l, "n")
	if err != nil {
		t.Fatal(head, s, err)
	}
	return p
}

func text(t testing.TB, p flat.Program) string {
	t.Helper()
	s, err := flat.Text(p)
	if err != nil {
		t.Fatalf("%v: %v", p, err)
	}
	return s
}

// isWrong by the document's words: are the last of these instants, and those ahead, as they are of what is wrong?
func isWrong(t testing.TB, p flat.Program, c int, in [][]api.Value) bool {
	t.Helper()
	l, err := flow.Run(p, in, true, 77)
	if err != nil {
		t.Fatalf("%s%v: %v", text(t, p), in, err)
	}
	if len(in) == 0 || len(l) < len(in) {
		return false
	}
	last := len(l) - 1
	if slices.ContainsFunc(l[:last], func(k flow.Tick) bool { return !k.Assert }) {
		return false
	}
	if c < 0 {
		return l[last].Trap
	}
	return !l[last].Trap && l[last].Assert && !l[last].Checks[c]
}

// told holds what is found to what it must be: of so many instants, or none.
func told(t testing.TB, p flat.Program, c, depth, effort, want int) Found {
	t.Helper()
	x, err := Trace(p, c, depth, effort)
	holds(t, p, c, x, want)
	if err != nil {
		t.Fatalf("%s%d, depth %d: %v", text(t, p), c, depth, err)
	}
	return x
}

func holds(t testing.TB, p flat.Program, c int, x Found, want int) {
	t.Helper()
	switch {
	case want == 0 && (x.Kind != "none" || len(x.Trace) > 0):
	case want > 0 && (x.Kind != "wrong" || len(x.Trace) != want || !isWrong(t, p, c, x.Trace)):
	default:
		return
	}
	t.Fatalf("%scheck %d: %v, want %d instants", text(t, p), c, x, want)
}

// bools: names of so many inputs.
func bools(n int) []string {
	var l []string
	for i := range n {
		l = append(l, "i"+strconv.Itoa(i))
	}
	return l
}

func shuffled(r *rand.Rand, l []string) []string {
	l = slices.Clone(l)
	r.Shuffle(len(l), func(i, j int) { l[i], l[j] = l[j], l[i] })
	return l
}

// parities: each of so many memories keeps whether so far an odd number of inputs were true, each by another order of them; the check is that they agree.
func parities(t testing.TB, memories, inputs int) flat.Program {
	t.Helper()
	r := rand.New(rand.NewSource(1))
	head := strings.Join(bools(inputs), ": bool; ") + ": bool) returns (m0: bool"
	s, check := "", "check true"
	for i := range memories {
		m := "m" + strconv.Itoa(i)
		if i > 0 {
			head += "; " + m + ": bool"
		}
		s += m + " = false fby (" + m + " xor " + strings.Join(shuffled(r, bools(inputs)), " xor ") + "); "
		check += " and m0 = " + m
	}
	return made(t, head+")", s+check+";")
}

func op(s string, l ...tree.Expr) tree.Expr { return tree.Expr{Op: s, L: l} }

func name(s string) tree.Expr { return tree.Expr{Op: "name", S: s} }

func number(n int) tree.Expr { return tree.Expr{Op: "int", N: n} }
