package sat

import (
	"math/rand"
	"slices"
	"testing"
)

// TestP2Order: variables come by their weights and numbers alone, however they were put there, also where weights are made alike.
func TestP2Order(t *testing.T) {
	r := rand.New(rand.NewSource(127))
	lightened := 0
	for n := range 40 {
		o := newOrder(n)
		out := map[int32]bool{}
		for range 2000 {
			switch v := int32(r.Intn(max(n, 1))); {
			case n == 0:
			case r.Intn(3) > 0:
				before := o.weight
				o.bump(v)
				if o.weight < before {
					lightened++
				}
				before = o.weight
				if o.fade(); o.weight <= before {
					t.Fatal(before, o.weight)
				}
			case len(o.heap) > 0 && r.Intn(2) == 0:
				first := slices.MinFunc(o.heap, func(v, w int32) int {
					if o.weights[v] > o.weights[w] || o.weights[v] == o.weights[w] && v < w {
						return -1
					}
					return 1
				})
				if v := o.pop(); v != first || out[v] {
					t.Fatal(v, first)
				}
				out[first] = true
			default:
				o.push(v)
				delete(out, v)
			}
			if len(o.heap)+len(out) != n {
				t.Fatal(n, o.heap, out)
			}
		}
	}
	if lightened < 50 {
		t.Error(lightened)
	}
}

// TestP2Lightened: where a weight is gone, numbers count again.
func TestP2Lightened(t *testing.T) {
	o := newOrder(9)
	for v := range int32(9) {
		for range v {
			o.bump(v)
		}
	}
	if o.heap[0] != 8 {
		t.Fatal(o.heap)
	}
	o.lighten()
	for v := range int32(9) {
		if got := o.pop(); got != v {
			t.Error(v, got)
		}
	}
}
