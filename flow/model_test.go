package flow

import (
	"math/rand"
	"reflect"
	"slices"
	"testing"

	"lustrum/api"
	"lustrum/flat"
	"lustrum/order"
	"lustrum/sample"
	"lustrum/tree"
	"lustrum/types"
)

func drawn(r *rand.Rand, n int) []byte {
	l := make([]byte, n)
	r.Read(l)
	return l
}

type moment struct {
	name string
	t    int
}

// second works a program out by the document's words: a term is asked for its value at an instant, and asks on; what was an instant ago is worked out again.
type second struct {
	flat.Program
	in    [][]api.Value
	nils  map[int]api.Value
	kinds map[string]int
	lates map[string]int
	known map[moment]api.Value
	traps map[int]bool // of instants
}

func newSecond(t testing.TB, p flat.Program, in [][]api.Value, nilBool, nilInt int) *second {
	s := &second{p, in, map[int]api.Value{api.Bool: bit(nilBool), api.Int: whole(nilInt)}, map[string]int{}, map[string]int{}, map[moment]api.Value{}, map[int]bool{}}
	late, err := order.Late(p)
	if err != nil {
		t.Fatal(err)
	}
	for _, v := range p.In {
		s.kinds[v.Name] = v.Kind
	}
	for i, f := range p.L {
		s.kinds[f.Name] = f.Kind
		s.lates[f.Name] = late[i]
	}
	return s
}

// late by P51, number by number.
func (s *second) late(e tree.Expr) int {
	var l []int
	for _, part := range e.L {
		l = append(l, s.late(part))
	}
	more := func(n int) int { return min(n+1, 2) }
	arrow := func(a, b int) int {
		if b == 2 {
			return 2
		}
		return a
	}
	switch e.Op {
	case "name":
		return s.lates[e.S]
	case "pre":
		return more(l[0])
	case "->":
		return arrow(l[0], l[1])
	case "fby":
		return arrow(l[0], more(l[1]))
	}
	return slices.Max(append(l, 0))
}

func (s *second) named(name string, t int) api.Value {
	for i, v := range s.In {
		if v.Name == name {
			return s.in[t][i]
		}
	}
	at := moment{name, t}
	if v, ok := s.known[at]; ok {
		return v
	}
	i := slices.IndexFunc(s.L, func(f flat.Flow) bool { return f.Name == name })
	s.known[at] = s.value(s.L[i].E, t)
	return s.known[at]
}

func (s *second) value(e tree.Expr, t int) api.Value {
	if t == 0 && s.late(e) > 0 {
		l, err := types.Terms(s.kinds, []tree.Expr{e})
		if err != nil {
			panic(err)
		}
		return s.nils[l[0]]
	}
	switch e.Op {
	case "name":
		return s.named(e.S, t)
	case "int":
		return whole(e.N)
	case "true":
		return bit(1)
	case "false":
		return bit(0)
	case "pre":
		return s.value(e.L[0], t-1)
	case "->":
		return s.value(e.L[min(t, 1)], t)
	case "fby":
		if t == 0 {
			return s.value(e.L[0], 0)
		}
		return s.value(e.L[1], t-1)
	}
	return s.operate(e, t)
}

func (s *second) operate(e tree.Expr, t int) api.Value {
	var l [3]api.Value
	for i, part := range e.L {
		l[i] = s.value(part, t)
	}
	if e.Op == "if" {
		return l[2-l[0].N]
	}
	a, b := l[0].N, l[1].N
	switch e.Op {
	case "not":
		return bit(a ^ 1)
	case "and":
		return bit(a & b)
	case "or":
		return bit(a | b)
	case "xor":
		return bit(a ^ b)
	case "=>":
		return bit(a ^ 1 | b)
	}
	v, trap := secondInts(e.Op, a, b)
	if trap {
		s.traps[t] = true
		return whole(0)
	}
	return v
}

// all parts of a term are worked out at an instant.
func (s *second) all(e tree.Expr, t int) {
	s.value(e, t)
	for _, part := range e.L {
		s.all(part, t)
	}
}

func (s *second) tick(t int) Tick {
	for _, f := range s.L {
		s.all(f.E, t)
	}
	for _, e := range slices.Concat(s.Asserts, s.Checks) {
		s.all(e, t)
	}
	if s.traps[t] {
		return Tick{Trap: true}
	}
	k := Tick{Assert: true}
	for _, name := range s.Out {
		k.Out = append(k.Out, s.named(name, t))
	}
	for _, e := range s.Asserts {
		k.Assert = k.Assert && s.value(e, t) == bit(1)
	}
	for _, e := range s.Checks {
		k.Checks = append(k.Checks, s.value(e, t) == bit(1))
	}
	return k
}

func (s *second) run() []Tick {
	var l []Tick
	for t := range s.in {
		l = append(l, s.tick(t))
		if l[t].Trap {
			break
		}
	}
	return l
}

func text(t testing.TB, p flat.Program) string {
	s, err := flat.Text(p)
	if err != nil {
		t.Fatalf("%v: %v", p, err)
	}
	return s
}

// alike: a nil list and an empty one are one thing.
func alike(a, b []Tick) bool {
	return slices.EqualFunc(a, b, func(x, y Tick) bool {
		return slices.Equal(x.Out, y.Out) && slices.Equal(x.Checks, y.Checks) && x.Assert == y.Assert && x.Trap == y.Trap
	})
}

// sameAsSecond holds a run to the second way, by each nil, and each beginning of it to the whole.
func sameAsSecond(t testing.TB, p flat.Program, in [][]api.Value) []Tick {
	t.Helper()
	got := runs(t, p, in)
	for _, x := range []int{0, 1} {
		if want := newSecond(t, p, in, x, x*9).run(); !alike(got, want) {
			t.Fatalf("%s%v: %v, want %v", text(t, p), in, got, want)
		}
	}
	for n := range in {
		l, err := Run(p, in[:n], true, 5)
		if err != nil || !alike(l, got[:min(n, len(got))]) {
			t.Fatalf("%s%v: %v, %v, but all: %v", text(t, p), in[:n], l, err, got)
		}
	}
	return got
}

// seen counts what runs have shown.
type seen struct {
	ticks, first, later, asserts, checks, outs int
}

func (s *seen) look(l []Tick) {
	s.ticks += len(l)
	for t, k := range l {
		switch {
		case k.Trap && t == 0:
			s.first++
		case k.Trap:
			s.later++
		case !k.Assert:
			s.asserts++
		}
		s.outs += len(k.Out)
		if slices.Contains(k.Checks, false) {
			s.checks++
		}
	}
}

func TestP61P62P64Second(t *testing.T) {
	r := rand.New(rand.NewSource(61))
	var s seen
	for range 3000 {
		p := sample.Program(drawn(r, 600))
		s.look(sameAsSecond(t, p, sample.Inputs(drawn(r, 60), p, r.Intn(10))))
	}
	if s.ticks < 6000 || s.first < 100 || s.later < 100 || s.asserts < 800 || s.checks < 800 || s.outs < 6000 {
		t.Errorf("only %+v", s)
	}
}

// TestP64Second: the second way does not take one nil for another where it can be seen.
func TestP64Second(t *testing.T) {
	p := made(t, "x: int; y: bool", "o = 1; x = pre i + 5; y = pre b = pre b;")
	for nilInt, nilBool := range []int{1, 0, 1} {
		s := newSecond(t, p, ins(3, 4), nilBool, nilInt)
		got := values(s.named("x", 0), s.named("y", 0), s.named("x", 1), s.named("y", 1))
		if want := values(whole(nilInt), bit(nilBool), whole(8), bit(1)); !reflect.DeepEqual(got, want) {
			t.Errorf("%v, want %v", got, want)
		}
	}
}

func FuzzRun(f *testing.F) {
	f.Add("node n(i: int; b: bool) returns (x: int); var y: int; let x = 0 -> y / i; y = pre x + i; check true -> pre (x > y) or b; tel", []byte{1, 1, 5, 0, 0, 1})
	f.Add("node a(u: int) returns (v: int); let v = 0 fby u mod 3; assert u <> 7; tel node n(i: int) returns (x: int); var y: int; let x = a(y); y = a(i) -> 9 / pre x; tel", []byte{7, 3, 200})
	f.Fuzz(func(t *testing.T, s string, bytes []byte) {
		l, err := tree.Read(s)
		if err != nil || len(bytes) > 60 {
			return
		}
		for _, n := range l {
			p, err := flat.Make(l, n.Name)
			if err != nil || order.Check(p) != nil || len(p.L) > 30 {
				continue
			}
			var in [][]api.Value
			for i := 0; len(p.In) > 0 && i+len(p.In) <= len(bytes); i += len(p.In) {
				var now []api.Value
				for k, v := range p.In {
					if v.Kind == api.Bool {
						now = append(now, bit(int(bytes[i+k]&1)))
					} else {
						now = append(now, whole(int(int8(bytes[i+k]))))
					}
				}
				in = append(in, now)
			}
			sameAsSecond(t, p, in)
		}
	})
}
