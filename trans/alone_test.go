package trans

import (
	"math/rand"
	"reflect"
	"slices"
	"sync"
	"testing"

	"lustrum/api"
	"lustrum/flat"
	"lustrum/flow"
	"lustrum/sample"
)

// known is all of a system that can be seen.
type known struct {
	lists        [][]api.Lit
	init         []bool
	assert, trap api.Lit
	parts        [][2]api.Lit
}

func seenOf(s System) known {
	k := known{init: slices.Clone(s.Init), assert: s.Assert, trap: s.Trap}
	for _, l := range [][]api.Lit{s.In, s.Mem, s.Next, s.Out, s.Checks} {
		k.lists = append(k.lists, slices.Clone(l))
	}
	for n := range s.G.Gates() {
		a, b, _, _ := s.G.Parts(n)
		k.parts = append(k.parts, [2]api.Lit{a, b})
	}
	return k
}

// someProgram has all that a system has lists for.
func someProgram(t testing.TB) flat.Program {
	return made(t, "x: int; y: bool", "o = x; x = 5 -> pre o + 20 / i; y = b; assert i < 4; check b; check true -> pre y; assert true fby b;")
}

// TestP2Always: the same program has the same gates, also where others make theirs.
func TestP2Always(t *testing.T) {
	r := rand.New(rand.NewSource(2))
	for range 20 {
		p := sample.Program(drawn(r, 600))
		in := sample.Inputs(drawn(r, 200), p, 20)
		systems, runs := make([]known, 6), make([][]flow.Tick, 6)
		var wait sync.WaitGroup
		for i := range systems {
			wait.Go(func() {
				s, err := Make(p)
				if err != nil {
					t.Error(err)
					return
				}
				systems[i] = seenOf(s)
				runs[i], _ = Run(p, in)
			})
		}
		wait.Wait()
		for i := range systems {
			if !reflect.DeepEqual(systems[i], systems[0]) || !reflect.DeepEqual(runs[i], runs[0]) {
				t.Fatalf("%s: unlike", text(t, p))
			}
		}
	}
}

// TestP4System: no two lists of it share memory, nor do two systems, or a system and its program.
func TestP4System(t *testing.T) {
	p := someProgram(t)
	before := text(t, p)
	s, err := Make(p)
	if err != nil {
		t.Fatal(err)
	}
	other, _ := Make(p)
	want := seenOf(other)
	lists := []*[]api.Lit{&s.In, &s.Mem, &s.Next, &s.Out, &s.Checks}
	for i, l := range lists {
		for j := range *l {
			(*l)[j] = -5
		}
		_ = append(*l, -6, -6, -6, -6)
		got := seenOf(s)
		if !slices.Equal(got.init, want.init) || !reflect.DeepEqual(got.lists[i+1:], want.lists[i+1:]) {
			t.Errorf("list %d: %+v", i, got)
		}
	}
	for i := range s.Init {
		s.Init[i] = !s.Init[i]
	}
	for range 5 {
		if _, err := s.G.Input(); err != nil {
			t.Error(err)
		}
	}
	if got := seenOf(other); !reflect.DeepEqual(got, want) {
		t.Errorf("%+v, want %+v", got, want)
	}
	if again, _ := Make(p); !reflect.DeepEqual(seenOf(again), want) || text(t, p) != before {
		t.Errorf("%+v, want %+v", seenOf(again), want)
	}
	p.In[0].Kind, p.L[0].E.S, p.Out[0], p.Asserts[0].Op, p.Checks[0].S = api.Bool, "i", "y", ">", "y"
	if got := seenOf(other); !reflect.DeepEqual(got, want) {
		t.Errorf("%+v, want %+v", got, want)
	}
}

// TestP4Lists: lists that have room behind them.
func TestP4Lists(t *testing.T) {
	p := someProgram(t)
	p.Out = append(p.Out, "none")[:1]
	p.In = append(p.In, p.In...)[:2]
	p.L = append(p.L, flat.Flow{Name: "none"})[:3]
	p.Checks = append(p.Checks, op("none"))[:2]
	p.Asserts = append(p.Asserts, op("none"))[:2]
	row := values(whole(3), bit(1), whole(99), bit(5))
	in := [][]api.Value{row[:2], row[:2], row[:2], nil}[:3]
	want := ran(t, p, in)
	l, err := Run(p, in)
	if err != nil {
		t.Fatal(err)
	}
	again, _ := Run(p, in)
	for i := range l {
		l[i].Out[0].N, l[i].Checks[0], l[i].Checks[1] = 77, false, false
		_, _ = append(l[i].Out, whole(66)), append(l[i].Checks, false)
	}
	in[0][0] = whole(1)
	if !alike(again, want) || p.Out[:2][1] != "none" || p.L[:4][3].Name != "none" || p.Checks[:3][2].Op != "none" || p.Asserts[:3][2].Op != "none" {
		t.Errorf("%v, want %v", again, want)
	}
	if !slices.Equal(row, values(whole(1), bit(1), whole(99), bit(5))) || in[:4][3] != nil {
		t.Errorf("%v", row)
	}
}
