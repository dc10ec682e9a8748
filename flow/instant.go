package flow

import "lustrum/api"

// instant of a program that is being worked out.
type instant struct {
	*Code
	first    bool // none has been
	memories []api.Value
	values   []int  // of all parts
	operands [3]int // of the operator that is at work: none has more
	trap     bool
}

// workAll parts out, since one that nothing uses may trap, too.
func (x *instant) workAll(in []api.Value) {
	x.values = make([]int, len(x.parts))
	for i, n := range x.inputs {
		x.values[n] = in[i].N
	}
	for _, n := range x.turns {
		x.values[n] = x.work(&x.parts[n])
	}
}

// work a part out, behind those that it needs at once.
func (x *instant) work(p *part) int {
	if x.first && p.late {
		return x.nils[p.kind]
	}
	switch p.op {
	case "int", "true", "false":
		return p.n
	case "name":
		return x.values[p.of[0]]
	case "pre":
		return x.memories[p.memory].N
	case "->", "fby":
		return x.behind(p)
	}
	return x.operate(p)
}

// behind its first value such a term is another one.
func (x *instant) behind(p *part) int {
	switch {
	case x.first:
		return x.values[p.of[0]]
	case p.op == "fby":
		return x.memories[p.memory].N
	}
	return x.values[p.of[1]]
}

func (x *instant) operate(p *part) int {
	l := x.operands[:len(p.of)]
	for i, n := range p.of {
		l[i] = x.values[n]
	}
	n, trap := p.do(l)
	x.trap = x.trap || trap
	return n
}

// tick tells what can be seen of it.
func (x *instant) tick() Tick {
	t := Tick{Out: x.told(x.outs), Assert: true}
	for _, n := range x.assertions {
		t.Assert = t.Assert && x.values[n] == truth(true)
	}
	for _, n := range x.checks {
		t.Checks = append(t.Checks, x.values[n] == truth(true))
	}
	return t
}

// state behind it.
func (x *instant) state() []api.Value {
	return append([]api.Value{{Kind: api.Bool, N: truth(false)}}, x.told(x.kept)...)
}

// told are the values of parts.
func (x *instant) told(parts []int) []api.Value {
	var l []api.Value
	for _, n := range parts {
		l = append(l, api.Value{Kind: x.parts[n].kind, N: x.values[n]})
	}
	return l
}
