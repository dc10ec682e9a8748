package find

import (
	"math/rand"
	"reflect"
	"slices"
	"sync"
	"testing"

	"lustrum/api"
	"lustrum/flat"
	"lustrum/sample"
)

// TestP2Always: the same is found, also where others search.
func TestP2Always(t *testing.T) {
	r := rand.New(rand.NewSource(2))
	for range 30 {
		p := sample.Program(drawn(r, 600))
		if r.Intn(2) == 0 {
			d := drawer{drawn(r, 300)}
			p = d.bools(t)
		}
		for c := -1; c < len(p.Checks); c++ {
			found := make([]Found, 6)
			var wait sync.WaitGroup
			for i := range found {
				wait.Go(func() {
					var err error
					if found[i], err = Trace(p, c, 5, 2000); err != nil {
						t.Error(err)
					}
				})
			}
			wait.Wait()
			for _, x := range found {
				if !reflect.DeepEqual(x, found[0]) {
					t.Fatalf("%s%v, %v", text(t, p), x, found[0])
				}
			}
		}
	}
}

// TestP4Memory: a program is only read, also where its lists have room behind them; what is found is nobody else's, and no two of its lists share memory.
func TestP4Memory(t *testing.T) {
	for _, effort := range []int{1000, api.MaxEffort} {
		for _, p := range []flat.Program{
			made(t, ibx, "o = x; x = 1 fby o + i; assert b -> true; check o < 4; check o < 3 or b;"),
			made(t, bcx, "o = x; x = false fby (o xor b); assert b -> true; check not o; check o or c;"),
		} {
			p.In = append(p.In, p.In...)[:2]
			p.L = append(p.L, flat.Flow{Name: "none"})[:2]
			p.Checks = append(p.Checks, op("none"))[:2]
			before := text(t, p)
			x := told(t, p, 0, 5, effort, 2)
			again := told(t, p, 0, 5, effort, 2)
			want := []api.Value{again.Trace[0][0], again.Trace[0][1], again.Trace[1][0], again.Trace[1][1]}
			x.Trace[0][0].N, x.Trace[0][1].N = 55, 66
			_, _ = append(x.Trace, nil), append(x.Trace[0], whole(7), whole(8), whole(9))
			if !slices.Equal(x.Trace[1], want[2:]) || !slices.Equal(slices.Concat(again.Trace...), want) {
				t.Errorf("%v, %v, want %v", x, again, want)
			}
			if text(t, p) != before || p.L[:3][2].Name != "none" || p.Checks[:3][2].Op != "none" {
				t.Errorf("%s has changed", before)
			}
		}
	}
}
