package judge

import (
	"math/rand"
	"reflect"
	"slices"
	"sync"
	"testing"

	"lustrum/api"
	"lustrum/flat"
	"lustrum/prove"
	"lustrum/sample"
)

// TestP2Always: the same is judged, also where others judge.
func TestP2Always(t *testing.T) {
	t.Parallel()
	r := rand.New(rand.NewSource(2))
	for range 30 {
		p := sample.Program(drawn(r, 600))
		if r.Intn(2) == 0 {
			p = sample.Bools(drawn(r, 300), r.Intn(6))
		}
		lists := make([][]Verdict, 6)
		var wait sync.WaitGroup
		for i := range lists {
			wait.Go(func() {
				var err error
				if lists[i], err = All(p, 4, 2000); err != nil {
					t.Error(err)
				}
				if err = Check(p, lists[i]); err != nil {
					t.Error(err)
				}
			})
		}
		wait.Wait()
		for _, l := range lists {
			if !reflect.DeepEqual(l, lists[0]) {
				t.Fatalf("%s%v, %v", text(t, p), l, lists[0])
			}
		}
	}
}

// spoilt verdicts: whatever they have is written over.
func spoilt(l []Verdict) {
	for i := range l {
		for _, in := range l[i].Trace {
			for k := range in {
				in[k].N += 55
			}
			_ = append(in, whole(7), whole(8), whole(9))
		}
		for _, c := range slices.Concat(l[i].Proof.Base, l[i].Proof.Step) {
			clear(c)
			_ = append(c, 7, 8, 9)
		}
		clear(l[i].Trace)
		clear(l[i].Proof.Base)
		clear(l[i].Proof.Step)
	}
	clear(l)
}

// alike to the last number; a nil list and an empty one are one thing.
func alike(a, b Verdict) bool {
	return a.Kind == b.Kind && a.Proof.K == b.Proof.K &&
		slices.EqualFunc(a.Trace, b.Trace, slices.Equal) &&
		slices.EqualFunc(a.Proof.Base, b.Proof.Base, slices.Equal) &&
		slices.EqualFunc(a.Proof.Step, b.Proof.Step, slices.Equal)
}

// TestP4Memory: a program and verdicts are only read, also where lists have room behind them; what is judged is nobody else's.
func TestP4Memory(t *testing.T) {
	for _, p := range []flat.Program{
		made(t, "i: int; j: int) returns (o: int)", "o = 60 / (1 fby i); check i + j - j = i; check o < 30;"),
		made(t, bcxy, "x = false fby x; y = false fby c; o = true -> pre b; check not (x and b); check o;"),
	} {
		p.In = append(p.In, p.In...)[:2]
		p.L = append(p.L, flat.Flow{Name: "none"})[:len(p.L)]
		p.Checks = append(p.Checks, op("none"))[:2]
		before := text(t, p)
		l, again, third := all(t, p, 4, 100000), all(t, p, 4, 100000), all(t, p, 4, 100000)
		kept := append(slices.Clone(l), Verdict{Kind: "none"})[:len(l)]
		for i, v := range kept {
			kept[i].Trace = append(slices.Clone(v.Trace), values(whole(300)))[:len(v.Trace)]
			kept[i].Proof = prove.Proof{K: v.Proof.K, Base: append(slices.Clone(v.Proof.Base), api.Clause{0})[:len(v.Proof.Base)], Step: v.Proof.Step}
		}
		for range 2 {
			told(t, Check(p, kept), -1, nil)
		}
		for i, v := range kept {
			if !alike(v, l[i]) {
				t.Errorf("%d has changed", i)
			}
		}
		if kept[:len(l)+1][len(l)].Kind != "none" {
			t.Error("what is behind has changed")
		}
		spoilt(l)
		told(t, Check(p, again), -1, nil)
		if !reflect.DeepEqual(again, third) || !reflect.DeepEqual(all(t, p, 4, 100000), third) {
			t.Error("changed")
		}
		if text(t, p) != before || p.L[:len(p.L)+1][len(p.L)].Name != "none" || p.Checks[:3][2].Op != "none" {
			t.Errorf("%s has changed", before)
		}
	}
}

// TestP4Apart: no two lists of one answer share memory.
func TestP4Apart(t *testing.T) {
	p := made(t, "i: int; j: int) returns (o: int)", "o = 60 / (1 fby i); check o < 30; check i + j - j = i; check j + i - i = j; check i + j - j = i;")
	l, again := all(t, p, 4, 100000), all(t, p, 4, 100000)
	for i := range l {
		spoilt(l[i : i+1])
		if !reflect.DeepEqual(l[i+1:], again[i+1:]) {
			t.Errorf("%d is shared", i)
		}
	}
}
