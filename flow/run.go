package flow

import "lustrum/api"

// run goes through the instants of a plan.
type run struct {
	*plan
	operators map[string]operator
	nils      map[int]int // by types
	first     bool        // it is at the first instant
	trap      bool        // it has trapped
	known     []bool      // which parts have been worked out at this instant
	now       []int       // what they are
	ago       []int       // what all parts were an instant ago
}

func newRun(x *plan, nilBool bool, nilInt int) *run {
	nils := map[int]int{api.Bool: truth(nilBool), api.Int: nilInt}
	return &run{plan: x, operators: operators(), nils: nils, first: true}
}

// instant works all parts out, since one that nothing uses may trap, too.
func (r *run) instant(in []api.Value) Tick {
	r.known, r.now = make([]bool, len(r.parts)), make([]int, len(r.parts))
	for i, v := range in {
		r.known[i], r.now[i] = true, v.N
	}
	for i := range r.parts {
		r.value(i)
	}
	t := r.tick()
	r.first, r.ago = false, r.now
	return t
}

// tick tells what can be seen of an instant that has been worked out.
func (r *run) tick() Tick {
	if r.trap {
		return Tick{Trap: true}
	}
	t := Tick{Assert: true}
	for _, name := range r.Out {
		n := r.places[name]
		t.Out = append(t.Out, api.Value{Kind: r.parts[n].kind, N: r.now[n]})
	}
	for _, n := range r.assertions {
		t.Assert = t.Assert && r.now[n] == 1
	}
	for _, n := range r.checks {
		t.Checks = append(t.Checks, r.now[n] == 1)
	}
	return t
}

// value of a part now. It ends, since no flow needs itself at once.
func (r *run) value(i int) int {
	if !r.known[i] {
		r.known[i], r.now[i] = true, r.work(r.parts[i])
	}
	return r.now[i]
}

func (r *run) work(p part) int {
	if r.first && p.late {
		return r.nils[p.kind]
	}
	switch p.Op {
	case "int":
		return p.N
	case "true", "false":
		return truth(p.Op == "true")
	case "name":
		return r.value(r.places[p.S])
	case "pre":
		return r.ago[p.of[0]]
	case "->", "fby":
		return r.behind(p)
	}
	return r.operate(p)
}

// behind its first value such a term is another one.
func (r *run) behind(p part) int {
	switch {
	case r.first:
		return r.value(p.of[0])
	case p.Op == "fby":
		return r.ago[p.of[1]]
	}
	return r.value(p.of[1])
}

func (r *run) operate(p part) int {
	l := make([]int, len(p.of))
	for i, n := range p.of {
		l[i] = r.value(n)
	}
	n, trap := r.operators[p.Op](l)
	r.trap = r.trap || trap
	return n
}
