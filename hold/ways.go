package hold

import (
	"math/bits"

	"lustrum/api"
	"lustrum/graph"
)

// within a word, each bit of which is a way of its own, so many inputs are all that they can be.
const within = 6

// ways that the inputs of a graph may be, a word of them at once.
type ways struct {
	roots []api.Lit
	words []uint64 // of each gate
	gates []gate
	open  []int    // inputs that may be either: the first ones are so within a word, the others count on from word to word
	steps [][]gate // of each input that counts: the gates that hang on it, or on one that counts faster; then all gates
}

// gate that is no input.
type gate struct {
	n    int
	a, b api.Lit
}

// tryAll that inputs may be, until all roots hold: what these literals are then.
func (w *ways) tryAll(l []api.Lit) ([]bool, bool) {
	w.order()
	counting := len(w.steps) - 1
	w.work(w.steps[counting])
	for n := 1; w.held() == 0; n++ {
		last := bits.TrailingZeros(uint(n))
		if last >= counting {
			return nil, false
		}
		for _, x := range w.open[within : within+last+1] {
			w.words[x] = ^w.words[x]
		}
		w.work(w.steps[last])
	}
	way := bits.TrailingZeros64(w.held())
	out := make([]bool, len(l))
	for i, x := range l {
		out[i] = w.word(x)>>way&1 == 1
	}
	return out, true
}

// newWays of the inputs that are needed, as are other gates, for the roots.
func newWays(g *graph.Graph, roots []api.Lit, needed []bool) *ways {
	w := &ways{roots: roots, words: make([]uint64, g.Gates())}
	settled := make([]bool, g.Gates()) // inputs that are roots
	for _, x := range roots {
		settled[x/2] = true
		w.words[x/2] = ^turn(x)
	}
	w.words[0] = 0
	for n, is := range needed {
		a, b, input, err := g.Parts(n)
		switch {
		case !is || err != nil:
		case !input:
			w.gates = append(w.gates, gate{n, a, b})
		case !settled[n]:
			w.open = append(w.open, n)
		}
	}
	return w
}

// count of ways, but no more than an int of 32 bits can be.
func (w *ways) count() int { return 1 << min(len(w.open), 30) }

// order gates by the fastest of the inputs that count on which they hang.
func (w *ways) order() {
	counting := max(0, len(w.open)-within)
	fastest := make([]int, len(w.words))
	for n := range fastest {
		fastest[n] = counting
	}
	for i, n := range w.open {
		if i < within {
			w.words[n] = ^uint64(0) / (1<<(1<<i) + 1) // as many bits that are so and not so, in turn
		} else {
			fastest[n] = i - within
		}
	}
	w.steps = make([][]gate, counting+1)
	for _, x := range w.gates {
		fastest[x.n] = min(fastest[x.a/2], fastest[x.b/2])
		for i := fastest[x.n]; i <= counting; i++ {
			w.steps[i] = append(w.steps[i], x)
		}
	}
}

// turn of a literal: what its gate's word is turned by.
func turn(x api.Lit) uint64 { return -uint64(x & 1) }

func (w *ways) word(x api.Lit) uint64 { return w.words[x/2] ^ turn(x) }

// work gates out, each behind its parts.
func (w *ways) work(l []gate) {
	for _, x := range l {
		w.words[x.n] = w.word(x.a) & w.word(x.b)
	}
}

// held: the ways by which all roots do.
func (w *ways) held() uint64 {
	h := ^uint64(0)
	for _, x := range w.roots {
		h &= w.word(x)
	}
	return h
}
