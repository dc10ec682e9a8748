package flat

import (
	"math/rand"
	"reflect"
	"slices"
	"testing"

	"lustrum/api"
	"lustrum/tree"
	"lustrum/types"
)

// How a value may be none; of several, the greatest counts.
const (
	isLate  = 1 + iota // it is there only later
	isTrap             // a division by 0
	isCycle            // it needs itself at once
)

// value of a term at an instant; a bool is 0 or 1.
type value struct{ n, none int }

// operate does what has nothing to do with time, names or calls.
func operate(op string, l []value) value {
	none := 0
	for _, v := range l {
		none = max(none, v.none)
	}
	if none > 0 {
		return value{none: none}
	}
	truth := func(b bool) int {
		if b {
			return 1
		}
		return 0
	}
	a, b := 0, 0
	if len(l) > 0 {
		a = l[0].n
	}
	if len(l) > 1 {
		b = l[1].n
	}
	if (op == "/" || op == "mod") && b == 0 {
		return value{none: isTrap}
	}
	n := 0
	switch op {
	case "true":
		n = 1
	case "not":
		n = 1 - a
	case "and":
		n = a * b
	case "or":
		n = max(a, b)
	case "xor", "<>":
		n = truth(a != b)
	case "=>":
		n = max(1-a, b)
	case "=":
		n = truth(a == b)
	case "<":
		n = truth(a < b)
	case "<=":
		n = truth(a <= b)
	case ">":
		n = truth(a > b)
	case ">=":
		n = truth(a >= b)
	case "neg":
		n = -a
	case "+":
		n = a + b
	case "-":
		n = a - b
	case "*":
		n = a * b
	case "/":
		n = a / b
	case "mod":
		n = a % b
	case "if":
		n = l[2-a].n
	}
	return value{n: int(int8(n))}
}

// instants of time: terms are worked out over these, names and calls by what is asked.
type instants struct {
	in    [][]int
	now   int
	traps map[int]bool
	rest  []func() // what stands below a pre, and is still to be worked out now: it may trap
}

// ago is what a term had an instant ago.
func (s *instants) ago(e *tree.Expr, t int, ask func(e *tree.Expr, t int) value) value {
	if t == s.now {
		s.rest = append(s.rest, func() { s.term(e, t, ask) })
	}
	if t == 0 {
		return value{none: isLate}
	}
	return s.term(e, t-1, ask)
}

// end of an instant; it answers whether that traps.
func (s *instants) end() bool {
	for len(s.rest) > 0 {
		work := s.rest[0]
		s.rest = s.rest[1:]
		work()
	}
	s.now++
	return s.traps[s.now-1]
}

func (s *instants) term(e *tree.Expr, t int, ask func(e *tree.Expr, t int) value) value {
	part := func(i int) value { return s.term(&e.L[i], t, ask) }
	switch e.Op {
	case "name", "call":
		return ask(e, t)
	case "int":
		return value{n: e.N}
	case "pre":
		return s.ago(&e.L[0], t, ask)
	case "->", "fby":
		first, rest := part(0), value{}
		if e.Op == "->" {
			rest = part(1)
		} else {
			rest = s.ago(&e.L[1], t, ask)
		}
		if t == 0 {
			return first
		}
		return rest
	}
	var l []value
	for i := range e.L {
		l = append(l, part(i))
	}
	v := operate(e.Op, l)
	if v.none == isTrap {
		s.traps[t] = true
	}
	return v
}

type moment struct {
	name string
	t    int
}

// known values of names; one that is asked for while it is worked out needs itself.
type known map[moment]value

func (k known) value(name string, t int, work func() value) value {
	at := moment{name, t}
	if v, ok := k[at]; ok {
		return v
	}
	k[at] = value{none: isCycle}
	k[at] = work()
	return k[at]
}

// tick is what can be seen of an instant.
type tick struct {
	outs, asserts, checks []value
	trap                  bool
}

// flatRun works a flat program out.
type flatRun struct {
	instants
	Program
	known
}

func (r *flatRun) ask(e *tree.Expr, t int) value {
	return r.value(e.S, t, func() value {
		for i, v := range r.In {
			if v.Name == e.S {
				return value{n: r.in[t][i]}
			}
		}
		i := slices.IndexFunc(r.L, func(f Flow) bool { return f.Name == e.S })
		return r.term(&r.L[i].E, t, r.ask)
	})
}

func runFlat(p Program, in [][]int) []tick {
	r := &flatRun{instants{in: in, traps: map[int]bool{}}, p, known{}}
	var l []tick
	for t := range in {
		var k tick
		for i := range p.L {
			r.ask(&tree.Expr{Op: "name", S: p.L[i].Name}, t)
		}
		for _, s := range p.Out {
			k.outs = append(k.outs, r.ask(&tree.Expr{Op: "name", S: s}, t))
		}
		for i := range p.Asserts {
			k.asserts = append(k.asserts, r.term(&p.Asserts[i], t, r.ask))
		}
		for i := range p.Checks {
			k.checks = append(k.checks, r.term(&p.Checks[i], t, r.ask))
		}
		k.trap = r.end()
		l = append(l, k)
	}
	return l
}

// instance of a node: each call has one of its own, by the place where it stands.
type instance struct {
	*nodeRun
	tree.Node
	known
	outer *instance
	call  *tree.Expr
	inner map[*tree.Expr]*instance
}

// held is an assert or a check of an instance.
type held struct {
	*instance
	kind string
	e    *tree.Expr
}

// nodeRun works a program out as it stands, calls and all.
type nodeRun struct {
	instants
	nodes []tree.Node
	all   []*instance
	held  []held
}

func (r *nodeRun) enter(node string, outer *instance, call *tree.Expr) *instance {
	at := slices.IndexFunc(r.nodes, func(n tree.Node) bool { return n.Name == node })
	x := &instance{r, r.nodes[at], known{}, outer, call, map[*tree.Expr]*instance{}}
	r.all = append(r.all, x)
	for i := range x.L {
		q := &x.L[i]
		x.calls(&q.E)
		if q.Kind != "set" {
			r.held = append(r.held, held{x, q.Kind, &q.E})
		}
	}
	return x
}

func (x *instance) calls(e *tree.Expr) {
	for i := range e.L {
		x.calls(&e.L[i])
	}
	if e.Op == "call" {
		x.inner[e] = x.enter(e.S, x, e)
	}
}

func (x *instance) ask(e *tree.Expr, t int) value {
	if e.Op == "call" {
		in := x.inner[e]
		return in.named(in.Out[0].Name, t)
	}
	return x.named(e.S, t)
}

func (x *instance) named(s string, t int) value {
	return x.value(s, t, func() value {
		for i, v := range x.In {
			if v.Name == s && x.outer == nil {
				return value{n: x.in[t][i]}
			} else if v.Name == s {
				return x.term(&x.call.L[i], t, x.outer.ask)
			}
		}
		for i := range x.L {
			q := &x.L[i]
			if at := slices.Index(q.Names, s); at >= 0 && len(q.Names) == 1 {
				return x.term(&q.E, t, x.ask)
			} else if at >= 0 {
				in := x.inner[&q.E]
				return in.named(in.Out[at].Name, t)
			}
		}
		return value{}
	})
}

func runNodes(nodes []tree.Node, node string, in [][]int) []tick {
	r := &nodeRun{instants: instants{in: in, traps: map[int]bool{}}, nodes: nodes}
	top := r.enter(node, nil, nil)
	var l []tick
	for t := range in {
		var k tick
		for _, x := range r.all {
			for _, v := range slices.Concat(x.In, x.Out, x.Own) {
				x.named(v.Name, t)
			}
		}
		for _, v := range top.Out {
			k.outs = append(k.outs, top.named(v.Name, t))
		}
		for _, h := range r.held {
			v := h.term(h.e, t, h.ask)
			if h.kind == "assert" {
				k.asserts = append(k.asserts, v)
			} else {
				k.checks = append(k.checks, v)
			}
		}
		k.trap = r.end()
		l = append(l, k)
	}
	return l
}

// TestP44Runs: the two ways of working out are held to what is known first.
func TestP44Runs(t *testing.T) {
	s := "node count(by: int) returns (n: int); let n = 0 -> pre n + by; tel\n" +
		"node m(i: int) returns (a: int; b: int; c: int); let a = count(1); b = count(i) + count(2); c = i fby count(a); check a < 3; assert 6 / i > 0; tel"
	in := [][]int{{1}, {2}, {3}, {0}}
	l := mustRead(t, s)
	for _, got := range [][]tick{runNodes(l, "m", in), runFlat(mustMake(t, s, "m"), in)} {
		want := []tick{
			{outs: []value{{n: 0}, {n: 0}, {n: 1}}, asserts: []value{{n: 1}}, checks: []value{{n: 1}}},
			{outs: []value{{n: 1}, {n: 4}, {n: 0}}, asserts: []value{{n: 1}}, checks: []value{{n: 1}}},
			{outs: []value{{n: 2}, {n: 9}, {n: 1}}, asserts: []value{{n: 1}}, checks: []value{{n: 1}}},
			{outs: []value{{n: 3}, {n: 11}, {n: 3}}, asserts: []value{{none: isTrap}}, checks: []value{{n: 0}}, trap: true},
		}
		if !reflect.DeepEqual(got, want) {
			t.Errorf("%v, want %v", got, want)
		}
	}
}

func TestP44Same(t *testing.T) {
	r := &randomly{Rand: rand.New(rand.NewSource(44))}
	ran, sound, traps, cycles := 0, 0, 0, 0
	for range 1200 {
		l := r.program()
		if types.Check(l) != nil {
			continue
		}
		node := l[len(l)-1]
		p, err := Make(l, node.Name)
		if err == api.ErrBound {
			continue
		}
		if err != nil {
			t.Fatal(err)
		}
		var in [][]int
		for range 5 {
			var now []int
			for _, v := range node.In {
				n := r.Intn(2)
				if v.Kind == api.Int {
					n = r.Intn(256) - 128
				}
				now = append(now, n)
			}
			in = append(in, now)
		}
		got, want := runFlat(p, in), runNodes(l, node.Name, in)
		if !reflect.DeepEqual(got, want) {
			text, _ := tree.Text(l)
			t.Fatalf("%s%s: %v, want %v", text, node.Name, got, want)
		}
		ran++
		for _, k := range want {
			for _, v := range slices.Concat(k.outs, k.asserts, k.checks) {
				switch v.none {
				case 0:
					sound++
				case isCycle:
					cycles++
				}
			}
			if k.trap {
				traps++
			}
		}
	}
	if ran < 1000 || sound < 10000 || traps < 100 || cycles > 0 {
		t.Errorf("only %d programs, %d values, %d traps; %d cycles", ran, sound, traps, cycles)
	}
}
