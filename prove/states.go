package prove

import (
	"slices"

	"lustrum/api"
	"lustrum/graph"
	"lustrum/hold"
	"lustrum/throw"
	"lustrum/trans"
)

// table of states, by their numbers: whatever inputs an instant can have has been gone through.
type table struct {
	wrong []bool   // of each state: an instant of it can be wrong
	ways  [][]bool // from each state: to which states an instant can lead that goes on
}

// state of a number: of the last one it is the beginning, of others the bits of its memories.
func (x *aim) state(n int) []bool {
	if n == x.states()-1 {
		return x.Init
	}
	l := make([]bool, len(x.Mem))
	for i := range x.Mem[1:] {
		l[1+i] = n>>i&1 == 1
	}
	return l
}

// table of an aim, of whose states there are few.
func (x *aim) table() *table {
	t := &table{}
	for n := range x.states() {
		t.wrong = append(t.wrong, x.behind(x.state(n), x.last) != nil)
		t.ways = append(t.ways, x.waysFrom(x.state(n)))
	}
	return t
}

func (x *aim) waysFrom(state []bool) []bool {
	ways := make([]bool, x.states())
	known := api.Lit(0)
	for {
		next := x.behind(state, append(slices.Clone(x.ahead), graph.Not(known)))
		if next == nil {
			return ways
		}
		known = throw.Must(x.G.Or(known, is(x.G, x.Next, next)))
		n := 0
		for i, bit := range next[1:] {
			if bit {
				n |= 1 << i
			}
		}
		ways[n] = true
	}
}

// behind an instant of a state at which these literals hold: the state that is there; nil if there is no such instant.
func (x *aim) behind(state []bool, roots []api.Lit) []bool {
	in, ok, err := hold.Decide(x.G, slices.Concat(roots, hold.Alike(x.Mem, state)), x.In, share)
	throw.If(err)
	if !ok {
		return nil
	}
	return throw.Must(x.G.Eval(slices.Concat(in, state), x.Next))
}

// is: have these literals such bits?
func is(g *graph.Graph, l []api.Lit, bits []bool) api.Lit {
	return throw.Must(hold.All(g, hold.Alike(l, bits)))
}

// byStates: the same aim, so that no search has to do with inputs.
func (x *aim) byStates() *aim { return x.by(x.table()) }

// by a table: a system whose inputs are what the memories are to be behind an instant.
func (x *aim) by(t *table) *aim {
	g := new(graph.Graph)
	mem, in := fresh(g, len(x.Mem)), fresh(g, len(x.Mem)-1)
	s := trans.System{G: g, In: in, Mem: mem, Next: append([]api.Lit{0}, in...), Init: x.Init}
	last, ahead := api.Lit(0), api.Lit(0)
	for n, ways := range t.ways {
		here := is(g, mem, x.state(n))
		if t.wrong[n] {
			last = throw.Must(g.Or(last, here))
		}
		there := api.Lit(0)
		for to, isWay := range ways {
			if isWay {
				there = throw.Must(g.Or(there, is(g, s.Next, x.state(to))))
			}
		}
		ahead = throw.Must(g.Or(ahead, throw.Must(g.And(here, there))))
	}
	return &aim{s, []api.Lit{last}, []api.Lit{ahead}, t.longest()}
}

func fresh(g *graph.Graph, n int) []api.Lit {
	l := make([]api.Lit, n)
	for i := range l {
		l[i] = throw.Must(g.Input())
	}
	return l
}

// reach: from each state, to which states some instants that go on can lead, or none.
func (t *table) reach() [][]bool {
	l := make([][]bool, len(t.ways))
	for n, ways := range t.ways {
		l[n] = slices.Clone(ways)
		l[n][n] = true
	}
	for by := range l {
		for from := range l {
			for to := range l {
				l[from][to] = l[from][to] || l[from][by] && l[by][to]
			}
		}
	}
	return l
}

// longest: no path has more states, all of them unlike, the last of which can be wrong. States that lead to each other may all be on it; of others, one group alone that leads to those, and so on.
func (t *table) longest() int {
	reach := t.reach()
	known := make([]int, len(reach))
	var upTo func(n int) int
	upTo = func(n int) int {
		if known[n] > 0 {
			return known[n]
		}
		group, most := 0, 0
		for from := range reach {
			switch {
			case !reach[from][n]:
			case reach[n][from]:
				group++
			default:
				most = max(most, upTo(from))
			}
		}
		known[n] = most + group
		return known[n]
	}
	most := 0
	for n, is := range t.wrong {
		if is {
			most = max(most, upTo(n))
		}
	}
	return most
}
