package prove

import (
	"math/rand"
	"reflect"
	"slices"
	"sync"
	"testing"

	"lustrum/api"
	"lustrum/cnf"
	"lustrum/flat"
	"lustrum/sample"
)

// TestP2Always: the same is proved, also where others prove.
func TestP2Always(t *testing.T) {
	r := rand.New(rand.NewSource(2))
	for range 30 {
		p := sample.Program(drawn(r, 600))
		if r.Intn(2) == 0 {
			d := drawer{drawn(r, 300)}
			p = d.bools(t, r.Intn(6))
		}
		for c := -1; c < len(p.Checks); c++ {
			proofs := make([]Proof, 6)
			steps := make([]cnf.Formula, 6)
			var wait sync.WaitGroup
			for i := range proofs {
				wait.Go(func() {
					var err, formulaErr error
					proofs[i], _, err = Induction(p, c, 3, 2000)
					_, steps[i], formulaErr = Formulas(p, c, 2)
					if err != nil || formulaErr != nil {
						t.Error(err, formulaErr)
					}
				})
			}
			wait.Wait()
			for i, x := range proofs {
				if !reflect.DeepEqual(x, proofs[0]) || !alike(steps[i], steps[0]) {
					t.Fatalf("%s%v, %v", text(t, p), x, proofs[0])
				}
			}
		}
	}
}

// TestP4Memory: a program and a proof are only read, also where lists have room behind them; what is answered is nobody else's, and no two of its lists share memory.
func TestP4Memory(t *testing.T) {
	for _, p := range []flat.Program{
		made(t, "i: int; j: int) returns (o: int)", "o = (i + j) * 3; check o = i * 3 + j * 3; check true;"),
		made(t, bcxy, "x = false fby x; y = false fby c; o = true -> pre b; check not (x and b); check true;"),
	} {
		p.In = append(p.In, p.In...)[:2]
		p.L = append(p.L, flat.Flow{Name: "none"})[:len(p.L)]
		p.Checks = append(p.Checks, op("none"))[:2]
		before := text(t, p)
		x, ok, err := Induction(p, 0, 5, api.MaxEffort)
		if !ok || err != nil {
			t.Fatal(ok, err)
		}
		again, _, _ := Induction(p, 0, 5, api.MaxEffort)
		kept := Proof{x.K, slices.Concat(x.Base, []api.Clause{{7}}), slices.Concat(x.Step, []api.Clause{{0}})}
		kept.Base, kept.Step = kept.Base[:len(x.Base)], kept.Step[:len(x.Step)]
		for range 2 {
			if err := Check(p, 0, kept); err != nil {
				t.Error(err)
			}
		}
		if !reflect.DeepEqual(x, again) || !reflect.DeepEqual(kept, x) {
			t.Error("changed")
		}
		for _, l := range [][]api.Clause{x.Base, x.Step} {
			for i, c := range l {
				next := slices.Clone(l[(i+1)%len(l)])
				_ = append(c, 7, 8, 9)
				if len(l) > 1 && !slices.Equal(next, l[(i+1)%len(l)]) {
					t.Error("shared")
				}
			}
			for _, c := range l {
				clear(c)
			}
		}
		if third, _, _ := Induction(p, 0, 5, api.MaxEffort); !reflect.DeepEqual(third, again) {
			t.Error("changed")
		}
		if text(t, p) != before || p.L[:len(p.L)+1][len(p.L)].Name != "none" || p.Checks[:3][2].Op != "none" {
			t.Errorf("%s has changed", before)
		}
	}
}
