package word

import (
	"math"
	"slices"
	"testing"

	"lustrum/api"
)

// beyond the ints, on both sides.
func beyond() []int {
	return []int{-129, 128, -256, 255, 256, 1000, -1000, 1 << 32, -1 << 32, math.MaxInt, math.MinInt, math.MinInt + 1}
}

// weight of bits: the highest one counts below 0.
func weight(l []bool) int {
	n := 0
	for i, b := range l {
		if b {
			n += []int{1, 2, 4, 8, 16, 32, 64, -128}[i]
		}
	}
	return n
}

// TestP100Const: of all ints, the lowest bit first.
func TestP100Const(t *testing.T) {
	for n := -128; n < 128; n++ {
		l, err := Const(n)
		if len(l) != 8 || err != nil {
			t.Fatal(n, l, err)
		}
		bits := make([]bool, 8)
		for i, x := range l {
			if x != 0 && x != 1 {
				t.Fatal(n, l)
			}
			bits[i] = x == 1
		}
		if weight(bits) != n {
			t.Errorf("%d: %v", n, l)
		}
	}
	for _, c := range []struct {
		n    int
		want []api.Lit
	}{
		{0, []api.Lit{0, 0, 0, 0, 0, 0, 0, 0}},
		{1, []api.Lit{1, 0, 0, 0, 0, 0, 0, 0}},
		{6, []api.Lit{0, 1, 1, 0, 0, 0, 0, 0}},
		{127, []api.Lit{1, 1, 1, 1, 1, 1, 1, 0}},
		{-128, []api.Lit{0, 0, 0, 0, 0, 0, 0, 1}},
		{-1, []api.Lit{1, 1, 1, 1, 1, 1, 1, 1}},
		{-2, []api.Lit{0, 1, 1, 1, 1, 1, 1, 1}},
	} {
		if l, err := Const(c.n); !slices.Equal(l, c.want) || err != nil {
			t.Errorf("%d: %v, %v", c.n, l, err)
		}
	}
}

func TestP100ConstBound(t *testing.T) {
	for _, n := range beyond() {
		if l, err := Const(n); len(l) != 0 || err != api.ErrBound {
			t.Errorf("%d: %v, %v", n, l, err)
		}
	}
}

func TestP101Values(t *testing.T) {
	for n := range 256 {
		bits := make([]bool, 8)
		for i := range bits {
			bits[i] = n>>i&1 == 1
		}
		want := api.Value{Kind: api.Int, N: weight(bits)}
		if v, err := Value(bits); v != want || err != nil {
			t.Errorf("%v: %v, %v", bits, v, err)
		}
		if l, err := Bits(want); !slices.Equal(l, bits) || err != nil {
			t.Errorf("%v: %v, %v", want, l, err)
		}
	}
	for n, b := range []bool{false, true} {
		want := api.Value{Kind: api.Bool, N: n}
		if v, err := Value([]bool{b}); v != want || err != nil {
			t.Errorf("%v: %v, %v", b, v, err)
		}
		if l, err := Bits(want); !slices.Equal(l, []bool{b}) || err != nil {
			t.Errorf("%v: %v, %v", want, l, err)
		}
	}
}

func TestP101ValueShape(t *testing.T) {
	if v, err := Value(nil); v != (api.Value{}) || err != api.ErrShape {
		t.Error(v, err)
	}
	for _, n := range []int{0, 2, 3, 4, 5, 6, 7, 9, 10, 16, 64, 1000} {
		l := make([]bool, n)
		for range 2 {
			if v, err := Value(l); v != (api.Value{}) || err != api.ErrShape {
				t.Errorf("%d: %v, %v", n, v, err)
			}
			for i := range l {
				l[i] = true
			}
		}
	}
}

func TestP101BitsType(t *testing.T) {
	none := func(kind, n int) {
		t.Helper()
		if l, err := Bits(api.Value{Kind: kind, N: n}); len(l) != 0 || err != api.ErrType {
			t.Errorf("%d, %d: %v, %v", kind, n, l, err)
		}
	}
	for _, n := range beyond() {
		none(api.Int, n)
		none(api.Bool, n)
	}
	for _, n := range []int{-128, -2, -1, 2, 3, 127} {
		none(api.Bool, n)
	}
	for _, kind := range []int{0, 3, 4, -1, -2, math.MaxInt, math.MinInt} {
		for _, n := range []int{0, 1, -1, 100} {
			none(kind, n)
		}
	}
}

// TestP4OfValues: lists are only read, and answers new, also where they are alike.
func TestP4OfValues(t *testing.T) {
	behind := []bool{true, true, false}
	if v, err := Value(behind[:1]); v != (api.Value{Kind: api.Bool, N: 1}) || err != nil {
		t.Error(v, err)
	}
	if !slices.Equal(behind, []bool{true, true, false}) {
		t.Error(behind)
	}
	for _, v := range []api.Value{{Kind: api.Bool}, {Kind: api.Int, N: -100}} {
		first, _ := Bits(v)
		want := slices.Clone(first)
		for i := range first {
			first[i] = !first[i]
		}
		_ = append(first, true)
		if later, err := Bits(v); !slices.Equal(later, want) || err != nil {
			t.Error(later, err)
		}
	}
	first, _ := Const(5)
	clear(first)
	if later, err := Const(5); !slices.Equal(later, []api.Lit{1, 0, 1, 0, 0, 0, 0, 0}) || err != nil {
		t.Error(later, err)
	}
}
