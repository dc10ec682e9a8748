package sample

import (
	"errors"
	"math/rand"
	"slices"
	"testing"

	"lustrum/api"
	"lustrum/flat"
	"lustrum/order"
	"lustrum/step"
	"lustrum/tree"
)

func drawn(r *rand.Rand, n int) []byte {
	l := make([]byte, n)
	r.Read(l)
	return l
}

func count(e tree.Expr, ops map[string]int) {
	ops[e.Op]++
	for _, part := range e.L {
		count(part, ops)
	}
}

// TestPrograms: they are right, and of all kinds.
func TestPrograms(t *testing.T) {
	r := rand.New(rand.NewSource(7))
	ops := map[string]int{}
	late, behind := 0, 0
	for range 3000 {
		p := Program(drawn(r, r.Intn(1000)))
		if err := order.Check(p); err != nil {
			t.Fatalf("%v: %v", p, err)
		}
		for _, f := range p.L {
			count(f.E, ops)
		}
		for _, e := range slices.Concat(p.Asserts, p.Checks) {
			count(e, ops)
		}
		l, _ := order.Late(p)
		late += len(l) - len(slices.DeleteFunc(l, func(n int) bool { return n > 0 }))
		if l, _ := order.Order(p); !slices.IsSorted(l) {
			behind++
		}
	}
	for _, op := range []string{"name", "int", "true", "false", "not", "and", "or", "xor", "=>", "=", "<>", "<", "<=", ">", ">=", "neg", "+", "-", "*", "/", "mod", "pre", "->", "fby", "if"} {
		if ops[op] < 300 {
			t.Errorf("%s: only %d", op, ops[op])
		}
	}
	if late < 300 || behind < 300 {
		t.Errorf("only %d flows are late, in only %d programs some stand ahead of those that they need", late, behind)
	}
}

// TestBools: they are right, without ints, and have as many memories as are asked for.
func TestBools(t *testing.T) {
	r := rand.New(rand.NewSource(10))
	ops := map[string]int{}
	for n := range 2000 {
		p := Bools(drawn(r, r.Intn(300)), n%7)
		m, err := step.New(p, false, 0)
		if err != nil {
			t.Fatalf("%v: %v", p, err)
		}
		if l := m.State(); len(l) != 1+n%7 || len(p.L) != n%7 || len(p.Out) != n%7 || len(p.Checks) == 0 {
			t.Fatalf("%d: %v", n, p)
		}
		for _, f := range p.L {
			if f.Kind != api.Bool {
				t.Fatal(p)
			}
			count(f.E, ops)
		}
		for _, e := range slices.Concat(p.Asserts, p.Checks) {
			count(e, ops)
		}
	}
	for _, op := range []string{"name", "true", "false", "not", "and", "or", "xor", "=>", "=", "<>", "->", "fby", "if"} {
		if ops[op] < 300 {
			t.Errorf("%s: only %d", op, ops[op])
		}
	}
	if ops["int"]+ops["pre"] > 0 {
		t.Error(ops)
	}
}

func TestFewChoices(t *testing.T) {
	for n := range 200 {
		for _, b := range []byte{0, 1, 7, 255} {
			l := slices.Repeat([]byte{b}, n)
			for _, p := range []flat.Program{Program(l), Bools(l, n%6)} {
				if err := order.Check(p); err != nil {
					t.Errorf("%d times %d: %v", n, b, err)
				}
			}
		}
	}
	for _, p := range []flat.Program{Program(nil), Bools(nil, 0), Bools(nil, 3)} {
		if err := order.Check(p); err != nil {
			t.Error(err)
		}
	}
}

// TestSpoil: most programs are wrong then, in several ways.
func TestSpoil(t *testing.T) {
	r := rand.New(rand.NewSource(11))
	count := map[error]int{}
	for range 2000 {
		p := Program(drawn(r, 300))
		Spoil(drawn(r, 20), &p)
		err := order.Check(p)
		var f *api.Fault
		if errors.As(err, &f) {
			err = f.Err
		}
		count[err]++
	}
	for _, err := range []error{nil, api.ErrShape, api.ErrType, api.ErrCycle, api.ErrFirst} {
		if count[err] < 20 || count[err] > 1200 {
			t.Errorf("%v: %v", err, count)
		}
	}
	p := flat.Program{}
	Spoil(nil, &p)
	if err := order.Check(p); err != api.ErrShape {
		t.Error(err)
	}
}

// TestGreat: they are right, however many parts they have.
func TestGreat(t *testing.T) {
	for _, n := range []int{0, 1, 60, api.MaxFlat} {
		p := Divisions(n)
		if err := order.Check(p); err != nil || len(p.L) != n || len(p.Out) != n || len(p.In) != api.MaxParts {
			t.Errorf("%d: %v", n, err)
		}
		if err := order.Check(Heavy(n % 100)); err != nil {
			t.Errorf("%d: %v", n, err)
		}
	}
}

func TestValues(t *testing.T) {
	r := rand.New(rand.NewSource(8))
	p := flat.Program{In: []tree.Var{{Name: "b", Kind: api.Bool}, {Name: "i", Kind: api.Int}}}
	seen := map[api.Value]int{}
	for range 1000 {
		in := Inputs(drawn(r, 50), p, 5)
		if len(in) != 5 {
			t.Fatal(in)
		}
		for _, l := range append(in, Values(drawn(r, 9), []int{api.Bool, api.Int})) {
			if len(l) != 2 || l[0].Kind != api.Bool || l[1].Kind != api.Int {
				t.Fatal(l)
			}
			seen[l[0]]++
			seen[l[1]]++
		}
	}
	if len(seen) != 258 {
		t.Errorf("%d values", len(seen))
	}
	for v := range seen {
		if v.N < -128 || v.N > 127 || v.Kind == api.Bool && v.N != v.N&1 {
			t.Errorf("%v", v)
		}
	}
}

func TestOnlyRead(t *testing.T) {
	l := drawn(rand.New(rand.NewSource(9)), 500)
	before := slices.Clone(l)
	p := Program(l)
	Inputs(l, p, 9)
	Bools(l, 4)
	if !slices.Equal(l, before) {
		t.Error("changed")
	}
}
