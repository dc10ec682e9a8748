package order

import (
	"math/rand"
	"slices"
	"testing"

	"lustrum/api"
	"lustrum/flat"
	"lustrum/tree"
)

// value of a term at an instant, a bool being 0 or 1; none: something of it was there before the beginning.
type value struct {
	n    int
	none bool
}

// run works a program out; before the beginning, each pre and each fby finds a value of its own, made by a number.
type run struct {
	flat.Program
	in    [][]int
	made  int
	sites map[*tree.Expr]int
	known []map[string]value
}

func newRun(p flat.Program, in [][]int, made int) *run {
	r := &run{Program: p, in: in, made: made, sites: map[*tree.Expr]int{}}
	for range in {
		r.known = append(r.known, map[string]value{})
	}
	return r
}

func (r *run) named(s string, t int) value {
	for i, v := range r.In {
		if v.Name == s {
			return value{n: r.in[t][i]}
		}
	}
	if v, ok := r.known[t][s]; ok {
		return v
	}
	i := slices.IndexFunc(r.L, func(f flat.Flow) bool { return f.Name == s })
	v := r.term(&r.L[i].E, t)
	r.known[t][s] = v
	return v
}

// before the beginning: any value will do, so both types get one that is a bool.
func (r *run) before(e *tree.Expr) value {
	if _, ok := r.sites[e]; !ok {
		r.sites[e] = len(r.sites)
	}
	return value{n: r.made >> (r.sites[e] % 8) & 1, none: true}
}

func (r *run) ago(e *tree.Expr, t int) value {
	if t == 0 {
		return r.before(e)
	}
	return r.term(e, t-1)
}

func (r *run) term(e *tree.Expr, t int) value {
	switch e.Op {
	case "name":
		return r.named(e.S, t)
	case "int":
		return value{n: e.N}
	case "pre":
		return r.ago(&e.L[0], t)
	case "->":
		return r.term(&e.L[min(t, 1)], t)
	case "fby":
		if t == 0 {
			return r.term(&e.L[0], 0)
		}
		return r.ago(&e.L[1], t)
	}
	var l [3]int
	none := false
	for i := range e.L {
		v := r.term(&e.L[i], t)
		l[i], none = v.n, none || v.none
	}
	return value{operate(e.Op, l), none}
}

// operate works an operator out; by 0 it answers 0, since traps are not of interest here.
func operate(op string, l [3]int) int {
	a, b := l[0], l[1]
	if (op == "/" || op == "mod") && b == 0 {
		return 0
	}
	truth := func(b bool) int {
		if b {
			return 1
		}
		return 0
	}
	n := 0
	switch op {
	case "true":
		n = 1
	case "not":
		n = 1 - a
	case "and":
		n = a & b
	case "or":
		n = a | b
	case "xor", "<>":
		n = truth(a != b)
	case "=":
		n = truth(a == b)
	case "=>", "<=":
		n = truth(a <= b)
	case "<":
		n = truth(a < b)
	case ">":
		n = truth(a > b)
	case ">=":
		n = truth(a >= b)
	case "neg":
		n = -a
	case "+":
		n = a + b
	case "-":
		n = a - b
	case "*":
		n = a * b
	case "/":
		n = a / b
	case "mod":
		n = a % b
	case "if":
		n = l[2-a]
	}
	return int(int8(n))
}

// differ tells at how many instants from one on two values of a name, or a term, are not the same, or none.
func differ(a, b *run, from int, of func(r *run, t int) value) int {
	count := 0
	for t := from; t < len(a.in); t++ {
		x, y := of(a, t), of(b, t)
		if x != y || x.none {
			count++
		}
	}
	return count
}

func inputs(r *rand.Rand, p flat.Program, instants int) [][]int {
	in := make([][]int, instants)
	for t := range in {
		for _, v := range p.In {
			n := r.Intn(2)
			if v.Kind == api.Int {
				n = r.Intn(256) - 128
			}
			in[t] = append(in[t], n)
		}
	}
	return in
}

// TestP53NotLate: what is late by 0 has its values from the beginning on, whatever was there before it; what is late by 1 from the second instant on; and not earlier, if nothing is late by 2.
func TestP53NotLate(t *testing.T) {
	r := &randomly{Rand: rand.New(rand.NewSource(53))}
	notLate, lateByOne, terms, right := 0, 0, 0, 0
	for range 6000 {
		p := r.program(7)
		late, err := Late(p)
		if err != nil {
			continue
		}
		in := inputs(r.Rand, p, 6)
		a, b := newRun(p, in, 0), newRun(p, in, 255-r.Intn(128))
		exact := !slices.Contains(late, 2)
		for i, f := range p.L {
			of := func(r *run, t int) value { return r.named(f.Name, t) }
			if late[i] < 2 && differ(a, b, late[i], of) > 0 {
				t.Fatalf("%s%s is late by %d", text(t, p), f.Name, late[i])
			}
			if exact && late[i] == 1 && !a.named(f.Name, 0).none {
				t.Fatalf("%s%s is not late", text(t, p), f.Name)
			}
			notLate += 1 - min(late[i], 1)
			lateByOne += late[i] & 1
		}
		if Check(p) != nil {
			continue
		}
		right++
		for _, e := range slices.Concat(p.Asserts, p.Checks) {
			terms++
			if differ(a, b, 0, func(r *run, t int) value { return r.term(&e, t) }) > 0 {
				t.Fatalf("%s%v is late", text(t, p), e)
			}
		}
		for _, s := range p.Out {
			if differ(a, b, 0, func(r *run, t int) value { return r.named(s, t) }) > 0 {
				t.Fatalf("%s%s is late", text(t, p), s)
			}
		}
	}
	if notLate < 6000 || lateByOne < 1000 || terms < 800 || right < 800 {
		t.Errorf("only %d flows that are not late, %d by 1, %d terms, %d programs", notLate, lateByOne, terms, right)
	}
}

// TestP53Seen: the runs do tell what was there before the beginning.
func TestP53Seen(t *testing.T) {
	p := made(t, "x: int; y: int)", "x = 0 -> pre x + 1; y = pre i + 5;")
	in := [][]int{{10, 0}, {20, 0}}
	for made, want := range map[int]int{0: 5, 255: 6} {
		r := newRun(p, in, made)
		if got := []value{r.named("x", 0), r.named("x", 1), r.named("y", 0), r.named("y", 1)}; !slices.Equal(got, []value{{0, false}, {1, false}, {want, true}, {15, false}}) {
			t.Errorf("%d: %v", made, got)
		}
	}
}
