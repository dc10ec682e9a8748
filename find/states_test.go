package find

import (
	"math/rand"
	"testing"

	"lustrum/api"
)

// TestBothWays: a program of few states is searched by instants, by states, and by states where each search tires; all tell the same.
func TestBothWays(t *testing.T) {
	r := rand.New(rand.NewSource(66))
	found := [14]int{}
	for range 400 {
		d := drawer{drawn(r, 300)}
		p := d.bools(t)
		depth := r.Intn(14)
		for c := range p.Checks {
			want := newSearch(p, c, api.MaxEffort-1).run(depth)
			if want.Kind == "tired" {
				t.Fatalf("%s%v", text(t, p), want)
			}
			holds(t, p, c, want, len(want.Trace))
			for _, effort := range []int{0, 1, api.MaxEffort} {
				holds(t, p, c, newSearch(p, c, effort).byStates(depth), len(want.Trace))
			}
			found[len(want.Trace)]++
		}
	}
	if found[0] < 100 || found[1] < 50 || found[2] < 20 || found[3] < 10 || found[4] < 2 {
		t.Errorf("only %v", found)
	}
}

// TestManyWays: a search tires of the inputs, which are many, so that all of them must be tried.
func TestManyWays(t *testing.T) {
	p := parities(t, 2, 20)
	for _, effort := range []int{0, 10} {
		holds(t, p, 0, newSearch(p, 0, effort).byStates(12), 0)
	}
	p.Checks[0] = op("and", p.Checks[0], op("not", op("and", name("m1"), op("fby", op("false"), name("m0")))))
	for depth, want := range []int{0, 0, 0, 3, 3} {
		holds(t, p, 0, newSearch(p, 0, 10).byStates(depth), want)
	}
}
