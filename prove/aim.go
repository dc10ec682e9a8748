package prove

import (
	"slices"

	"lustrum/api"
	"lustrum/cnf"
	"lustrum/hold"
	"lustrum/throw"
	"lustrum/trans"
	"lustrum/unroll"
)

// aim at what is wrong, in a system of gates. What it is refused it throws.
type aim struct {
	trans.System
	last  []api.Lit // what holds at an instant that is wrong
	ahead []api.Lit // what holds at all those ahead of the first one that is
	most  int       // no path to what is wrong has more states, all of them unlike
}

func newAim(s trans.System, c int) *aim {
	x := &aim{System: s}
	x.last, x.ahead = unroll.Wrong(s, c)
	x.most = x.states()
	return x
}

// never holds.
func never() cnf.Formula { return cnf.Formula{L: []api.Clause{{}}} }

// isVain tells whether at sight no instant is wrong behind at least so many others.
func (x *aim) isVain(others int) bool {
	return slices.Contains(x.last, 0) || others > 0 && slices.Contains(x.ahead, 0)
}

// base: that of some instants from the beginning on, from least to most of them, the last one is wrong, and none ahead of it. That of fewer than the least of them it is must be out of the question.
func (x *aim) base(least, most int) cnf.Formula {
	if x.isVain(least - 1) {
		return never()
	}
	r := throw.Must(unroll.New(x.System, slices.Concat(x.last, x.ahead)))
	some, path := api.Lit(0), api.Lit(1)
	for n := range most {
		l := throw.Must(r.Add())
		if r.Again() {
			break
		}
		if n+1 >= least {
			wrong := throw.Must(hold.All(r.Graph, append([]api.Lit{path}, l[:len(x.last)]...)))
			some = throw.Must(r.Graph.Or(some, wrong))
		}
		path = throw.Must(hold.All(r.Graph, append([]api.Lit{path}, l[len(x.last):]...)))
		if path == 0 {
			break
		}
	}
	f, _, err := cnf.Of(r.Graph, []api.Lit{some})
	throw.If(err)
	return f
}

// step: that of k + 1 instants, from any state in which one has been on, or from the beginning on, all states ahead of them unlike, the last one is wrong, and none ahead of it.
func (x *aim) step(k int) cnf.Formula {
	if x.isVain(k) || k >= x.most {
		return never()
	}
	r := throw.Must(unroll.Open(x.System, slices.Concat(x.last, x.ahead, x.Mem)))
	var roots []api.Lit
	for n := range k + 1 {
		l := throw.Must(r.Add())
		last, ahead := l[:len(x.last)], l[len(x.last):][:len(x.ahead)]
		if n < k {
			roots = append(roots, ahead...)
		} else {
			roots = append(roots, last...)
		}
	}
	f := clausesOf(r.Graph, roots, slices.Concat(r.States...))
	f.begin(r.States[0], x.Init)
	for later := range r.States {
		for sooner := range later {
			f.unlike(r.States[sooner], r.States[later])
		}
	}
	return f.Formula
}

// states that there are: those in which an instant has been, and the beginning. Where they are more than are ever asked for, it is fewer.
func (x *aim) states() int {
	const enough = 10
	return 1<<min(len(x.Mem)-1, enough) + 1
}
