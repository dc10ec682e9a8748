package flow

import (
	"lustrum/api"
	"lustrum/plan"
)

// instant of a program that is being worked out.
type instant struct {
	*plan.Plan
	code     *Code
	first    bool // none has been
	memories []api.Value
	values   []int  // of all parts
	operands [3]int // of the operator that is at work: none has more
	trap     bool
}

func newInstant(c *Code, state []api.Value) *instant {
	return &instant{Plan: c.plan, code: c, first: state[0].N == truth(true), memories: state[1:]}
}

// workAll parts out, since one that nothing uses may trap, too.
func (x *instant) workAll(in []api.Value) {
	x.values = make([]int, len(x.Parts))
	for i, n := range x.Inputs {
		x.values[n] = in[i].N
	}
	for _, n := range x.Turns {
		x.values[n] = x.work(n)
	}
}

// work a part out, behind those that it needs at once.
func (x *instant) work(n int) int {
	p := &x.Parts[n]
	if x.first && p.Late {
		return x.code.nils[p.Kind]
	}
	switch p.Op {
	case "int", "true", "false":
		return p.N
	case "name":
		return x.values[p.Of[0]]
	case "pre":
		return x.memories[p.Memory].N
	case "->", "fby":
		return x.behind(p)
	}
	return x.operate(x.code.does[n], p.Of)
}

// behind its first value such a term is another one.
func (x *instant) behind(p *plan.Part) int {
	switch {
	case x.first:
		return x.values[p.Of[0]]
	case p.Op == "fby":
		return x.memories[p.Memory].N
	}
	return x.values[p.Of[1]]
}

func (x *instant) operate(do operator, of []int) int {
	l := x.operands[:len(of)]
	for i, n := range of {
		l[i] = x.values[n]
	}
	n, trap := do(l)
	x.trap = x.trap || trap
	return n
}

// tick tells what can be seen of it.
func (x *instant) tick() Tick {
	t := Tick{Out: x.told(x.Outs), Assert: true}
	for _, n := range x.Asserts {
		t.Assert = t.Assert && x.values[n] == truth(true)
	}
	for _, n := range x.Checks {
		t.Checks = append(t.Checks, x.values[n] == truth(true))
	}
	return t
}

// state behind it.
func (x *instant) state() []api.Value {
	return append([]api.Value{{Kind: api.Bool, N: truth(false)}}, x.told(x.Kept)...)
}

// told are the values of parts.
func (x *instant) told(parts []int) []api.Value {
	var l []api.Value
	for _, n := range parts {
		l = append(l, api.Value{Kind: x.Parts[n].Kind, N: x.values[n]})
	}
	return l
}
