package step

import (
	"bytes"
	"math/rand"
	"slices"
	"testing"

	"lustrum/api"
	"lustrum/flat"
	"lustrum/flow"
	"lustrum/order"
	"lustrum/sample"
	"lustrum/tree"
)

// node of a term, with the number of its memory, if it has one.
type node struct {
	op     string
	s      string
	n      int
	l      []node
	memory int
}

// second is a machine by the document's words: a term is asked for its value, and asks on; its memories are numbered as they are come by.
type second struct {
	inputs   []tree.Var
	out      []string
	names    []string // of flows
	flows    []node
	asserts  []node
	checks   []node
	kept     []node // what memories are of
	kinds    map[string]int
	lates    map[string]int
	nils     [3]int // by kinds
	state    []api.Value
	trapped  bool
	now      map[string]int // inputs and flows that are known
	trapping bool
}

func newSecond(t testing.TB, p flat.Program, nilBool bool, nilInt int) *second {
	late, err := order.Late(p)
	if err != nil {
		t.Fatal(err)
	}
	s := &second{inputs: p.In, out: p.Out, kinds: map[string]int{}, lates: map[string]int{}, nils: [3]int{api.Int: nilInt}}
	if nilBool {
		s.nils[api.Bool] = 1
	}
	for _, v := range p.In {
		s.kinds[v.Name] = v.Kind
	}
	for i, f := range p.L {
		s.kinds[f.Name], s.lates[f.Name] = f.Kind, late[i]
		s.names = append(s.names, f.Name)
		s.flows = append(s.flows, s.node(f.E))
	}
	for _, e := range p.Asserts {
		s.asserts = append(s.asserts, s.node(e))
	}
	for _, e := range p.Checks {
		s.checks = append(s.checks, s.node(e))
	}
	s.state = values(bit(1))
	for _, e := range s.kept {
		kind := s.kind(e)
		s.state = append(s.state, api.Value{Kind: kind, N: s.nils[kind]})
	}
	return s
}

func (s *second) node(e tree.Expr) node {
	n := node{op: e.Op, s: e.S, n: e.N}
	for _, part := range e.L {
		n.l = append(n.l, s.node(part))
	}
	switch e.Op {
	case "pre":
		n.memory = len(s.kept)
		s.kept = append(s.kept, n.l[0])
	case "fby":
		n.memory = len(s.kept)
		s.kept = append(s.kept, n.l[1])
	}
	return n
}

func (s *second) kind(e node) int {
	switch e.op {
	case "int", "neg", "+", "-", "*", "/", "mod":
		return api.Int
	case "name":
		return s.kinds[e.s]
	case "pre", "->", "fby", "if":
		return s.kind(e.l[len(e.l)-1])
	}
	return api.Bool
}

func (s *second) late(e node) bool {
	switch e.op {
	case "name":
		return s.lates[e.s] > 0
	case "pre":
		return true
	case "->", "fby":
		return s.late(e.l[0])
	}
	return slices.ContainsFunc(e.l, s.late)
}

func (s *second) value(e node) int {
	first := s.state[0].N == 1
	if first && s.late(e) {
		return s.nils[s.kind(e)]
	}
	switch e.op {
	case "name":
		if _, ok := s.now[e.s]; !ok {
			s.now[e.s] = s.value(s.flows[slices.Index(s.names, e.s)])
		}
		return s.now[e.s]
	case "int":
		return e.n
	case "true", "false":
		return map[string]int{"true": 1}[e.op]
	case "pre":
		return s.state[1+e.memory].N
	case "->":
		if first {
			return s.value(e.l[0])
		}
		return s.value(e.l[1])
	case "fby":
		if first {
			return s.value(e.l[0])
		}
		return s.state[1+e.memory].N
	}
	l := [3]int{}
	for i, part := range e.l {
		l[i] = s.value(part)
	}
	if e.op == "if" {
		return l[2-l[0]]
	}
	if l[1] == 0 && (e.op == "/" || e.op == "mod") {
		s.trapping = true
		return 0
	}
	return operate(e.op, int8(l[0]), int8(l[1]))
}

// operate on ints of 8 bits, which go around by themselves, or on bools.
func operate(op string, a, b int8) int {
	switch op {
	case "neg":
		return int(-a)
	case "+":
		return int(a + b)
	case "-":
		return int(a - b)
	case "*":
		return int(a * b)
	case "/":
		return int(a / b)
	case "mod":
		return int(a % b)
	case "not":
		return int(a ^ 1)
	case "and":
		return int(a & b)
	case "or":
		return int(a | b)
	case "=>":
		return int(a ^ 1 | b)
	}
	holds := map[string]bool{"=": a == b, "<>": a != b, "xor": a != b, "<": a < b, "<=": a <= b, ">": a > b, ">=": a >= b}
	if holds[op] {
		return 1
	}
	return 0
}

// all parts of terms are worked out.
func (s *second) all(l []node) {
	for _, e := range l {
		s.value(e)
		s.all(e.l)
	}
}

// tick of inputs that are right.
func (s *second) tick(in []api.Value) flow.Tick {
	if s.trapped {
		return flow.Tick{Trap: true}
	}
	s.now, s.trapping = map[string]int{}, false
	for i, v := range s.inputs {
		s.now[v.Name] = in[i].N
	}
	for _, l := range [][]node{s.flows, s.asserts, s.checks} {
		s.all(l)
	}
	if s.trapping {
		s.trapped = true
		return flow.Tick{Trap: true}
	}
	t := flow.Tick{Assert: true}
	for _, name := range s.out {
		t.Out = append(t.Out, api.Value{Kind: s.kinds[name], N: s.value(node{op: "name", s: name})})
	}
	for _, e := range s.asserts {
		t.Assert = t.Assert && s.value(e) == 1
	}
	for _, e := range s.checks {
		t.Checks = append(t.Checks, s.value(e) == 1)
	}
	next := values(bit(0))
	for _, e := range s.kept {
		next = append(next, api.Value{Kind: s.kind(e), N: s.value(e)})
	}
	s.state = next
	return t
}

// alike: a nil list and an empty one are one thing.
func alike(a, b flow.Tick) bool {
	return slices.Equal(a.Out, b.Out) && slices.Equal(a.Checks, b.Checks) && a.Assert == b.Assert && a.Trap == b.Trap
}

// seen counts what machines have shown.
type seen struct {
	ticks, traps, loads, first, memories, refused int
}

// pair of machines that are made to do the same.
type pair struct {
	testing.TB
	*seen
	m *Machine
	s *second
	p flat.Program
}

func newPair(t testing.TB, x *seen, p flat.Program, nilBool bool, nilInt int) *pair {
	m, err := New(p, nilBool, nilInt)
	if err != nil {
		t.Fatal(err)
	}
	return &pair{t, x, m, newSecond(t, p, nilBool, nilInt), p}
}

func (x *pair) compare(what ...any) {
	x.Helper()
	if got := x.m.State(); !slices.Equal(got, x.s.state) {
		x.Fatalf("%v: %v, want %v", what, got, x.s.state)
	}
	x.memories += len(x.s.kept)
}

func (x *pair) tick(in []api.Value) flow.Tick {
	x.Helper()
	got, err := x.m.Tick(in)
	if want := x.s.tick(in); !alike(got, want) || err != nil {
		x.Fatalf("%v: %v, %v, want %v", in, got, err, want)
	}
	x.ticks++
	if got.Trap {
		x.traps++
	}
	x.compare(in)
	return got
}

func (x *pair) load(l []api.Value) {
	x.Helper()
	if err := x.m.Load(l); err != nil {
		x.Fatalf("%v: %v", l, err)
	}
	x.s.state, x.s.trapped = slices.Clone(l), false
	x.loads++
	x.first += l[0].N
	x.compare(l)
}

// wrong inputs and states, of which nothing is to be seen.
func (x *pair) wrong(b byte) {
	x.Helper()
	in := make([]api.Value, len(x.p.In)+1)
	if t, err := x.m.Tick(in); x.s.trapped != (err == nil) || x.s.trapped != t.Trap || len(t.Out) > 0 {
		x.Fatalf("%v: %v, %v", in, t, err)
	}
	l := x.m.State()
	l[int(b)%len(l)].N = 500
	if err := x.m.Load(l); err != api.ErrShape {
		x.Fatalf("%v: %v", l, err)
	}
	x.refused++
	x.compare("wrong")
}

// states that choices make: more often than not there has been an instant.
func (x *pair) chosen(choices []byte) []api.Value {
	var kinds []int
	for _, v := range x.s.state {
		kinds = append(kinds, v.Kind)
	}
	l := sample.Values(choices, kinds)
	if l[0].N == 1 && choices[0]&2 == 0 {
		l[0].N = 0
	}
	return l
}

// doAll of what choices say.
func (x *pair) doAll(choices []byte) {
	for len(choices) > 20 {
		what, rest := choices[0], choices[1:]
		switch {
		case what < 30:
			x.load(x.chosen(rest))
		case what < 40:
			x.wrong(rest[0])
		default:
			x.tick(sample.Inputs(rest, x.p, 1)[0])
		}
		choices = rest[10:]
	}
}

func drawn(r *rand.Rand, n int) []byte {
	l := make([]byte, n)
	r.Read(l)
	return l
}

func TestP70P71Second(t *testing.T) {
	r := rand.New(rand.NewSource(70))
	x := new(seen)
	for range 2000 {
		p := sample.Program(drawn(r, 600))
		newPair(t, x, p, r.Intn(2) == 0, r.Intn(256)-128).doAll(drawn(r, 300))
	}
	if x.ticks < 30000 || x.traps < 3000 || x.loads < 3000 || x.first < 500 || x.memories < 50000 || x.refused < 1000 {
		t.Errorf("only %+v", *x)
	}
}

// sameAsRun holds a machine to flow.Run, by whatever nil each has.
func sameAsRun(t testing.TB, p flat.Program, in [][]api.Value, nilInt int) []flow.Tick {
	t.Helper()
	want, err := flow.Run(p, in, false, 0)
	if err != nil {
		t.Fatal(err)
	}
	m, err := New(p, true, nilInt)
	if err != nil {
		t.Fatal(err)
	}
	for i, now := range in {
		k, err := m.Tick(now)
		if at := min(i, len(want)-1); !alike(k, want[at]) || err != nil {
			t.Fatalf("instant %d: %v, %v, want %v", i, k, err, want[at])
		}
	}
	return want
}

func TestP72Run(t *testing.T) {
	r := rand.New(rand.NewSource(72))
	ticks, traps := 0, 0
	for range 2000 {
		p := sample.Program(drawn(r, 600))
		l := sameAsRun(t, p, sample.Inputs(drawn(r, 100), p, 12), r.Intn(256)-128)
		ticks += len(l)
		if l[len(l)-1].Trap {
			traps++
		}
	}
	if ticks < 10000 || traps < 300 {
		t.Errorf("only %d ticks, %d traps", ticks, traps)
	}
}

// sameOn: machines of one program, by other nils, and with another past, that are in one state go on alike, and their states, too.
func sameOn(t testing.TB, p flat.Program, past, state, future []byte) {
	t.Helper()
	x := new(seen)
	a, b := newPair(t, x, p, false, 0), newPair(t, x, p, true, -5)
	a.doAll(past)
	l := a.chosen(state)
	if a.s.trapped {
		a.load(l)
	}
	b.load(a.m.State())
	for range 2 {
		for _, in := range sample.Inputs(future, p, 6) {
			v, w := a.tick(in), b.tick(in)
			if !alike(v, w) || !slices.Equal(a.m.State(), b.m.State()) {
				t.Fatalf("%v: %v, %v", in, v, w)
			}
		}
		// A second time from a state that nothing has led to.
		a.load(l)
		b.load(l)
	}
}

func TestP72States(t *testing.T) {
	r := rand.New(rand.NewSource(73))
	for range 1000 {
		sameOn(t, sample.Program(drawn(r, 600)), drawn(r, r.Intn(200)), drawn(r, 60), drawn(r, 60))
	}
}

func FuzzMachine(f *testing.F) {
	r := rand.New(rand.NewSource(74))
	f.Add(drawn(r, 300), drawn(r, 200), byte(3))
	f.Add(bytes.Repeat([]byte{3, 7, 5, 9, 1}, 60), []byte{}, byte(200))
	f.Fuzz(func(t *testing.T, program, choices []byte, n byte) {
		if len(program) > 600 || len(choices) > 300 {
			return
		}
		p := sample.Program(program)
		newPair(t, new(seen), p, n&1 == 1, int(int8(n))).doAll(choices)
		sameAsRun(t, p, sample.Inputs(choices, p, 1+int(n)%30), int(int8(n)))
		sameOn(t, p, choices, append(slices.Clone(choices), n), choices)
	})
}
