package flow

import (
	"math"
	"math/rand"
	"reflect"
	"slices"
	"testing"

	"lustrum/api"
	"lustrum/sample"
)

func compiled(t testing.TB, own, s string, nilBool bool, nilInt int) *Code {
	t.Helper()
	c, err := Compile(made(t, own, s), nilBool, nilInt)
	if err != nil {
		t.Fatal(s, err)
	}
	return c
}

// TestCodeInstant: what a code makes of a state does not hang on what it made before.
func TestCodeInstant(t *testing.T) {
	c := compiled(t, "", "o = 5 -> pre i + 60 / i; check true -> pre b;", true, -9)
	start := values(bit(1), whole(-9), bit(1))
	if got := c.Start(); !slices.Equal(got, start) {
		t.Errorf("%v, want %v", got, start)
	}
	later := values(bit(0), whole(7), bit(0))
	for range 2 {
		for _, x := range []struct {
			state, in []api.Value
			want      string
			next      []api.Value
		}{
			{start, values(whole(2), bit(0)), "5", values(bit(0), whole(2), bit(0))},
			{start, values(whole(0), bit(0)), "trap", start},
			{later, values(whole(3), bit(1)), "27!0", values(bit(0), whole(3), bit(1))},
			{later, values(whole(0), bit(1)), "trap", later},
		} {
			k, next, err := c.Instant(x.state, x.in)
			if got := told([]Tick{k}); got != x.want || !slices.Equal(next, x.next) || err != nil {
				t.Errorf("%v %v: %s, %v, %v", x.state, x.in, got, next, err)
			}
		}
	}
}

func TestCodeWrong(t *testing.T) {
	c := compiled(t, "", "o = 5 -> pre i / i; check true -> pre b;", false, 0)
	state, in := c.Start(), values(whole(1), bit(1))
	for _, wrong := range [][]api.Value{
		nil, state[:2], append(slices.Clone(state), bit(0)), values(bit(2), whole(0), bit(0)), values(whole(0), whole(0), bit(0)),
		values(bit(0), whole(128), bit(0)), values(bit(0), whole(0), bit(-1)), values(bit(0), bit(0), whole(0)), values(bit(0), whole(0), api.Value{}),
	} {
		if c.IsState(wrong) {
			t.Errorf("%v is a state", wrong)
		}
		for _, in := range [][]api.Value{in, nil} {
			if k, next, err := c.Instant(wrong, in); err != api.ErrShape || next != nil || !reflect.DeepEqual(k, Tick{}) {
				t.Errorf("%v: %v, %v, %v", wrong, k, next, err)
			}
		}
	}
	for _, wrong := range [][]api.Value{nil, in[:1], values(bit(1), whole(1)), values(whole(math.MinInt), bit(1)), append(slices.Clone(in), in...)} {
		if k, next, err := c.Instant(state, wrong); err != api.ErrType || next != nil || !reflect.DeepEqual(k, Tick{}) || c.AreInputs(wrong) {
			t.Errorf("%v: %v, %v, %v", wrong, k, next, err)
		}
	}
	if !c.IsState(state) || !c.IsState(values(bit(0), whole(-128), bit(1))) {
		t.Error("states are none")
	}
	if !c.AreInputs(in) || !c.AreInputs(values(whole(-128), bit(0))) {
		t.Error("inputs are none")
	}
	if c, err := Compile(made(t, "", "o = 1;"), false, 128); c != nil || err != api.ErrBound {
		t.Errorf("%v, %v", c, err)
	}
	if c, err := Compile(made(t, "", "o = pre i;"), false, 128); c != nil || err == nil || err == api.ErrBound {
		t.Errorf("%v, %v", c, err)
	}
}

// TestCodeMemory: lists that are handed in are only read, those that are answered are new.
func TestCodeMemory(t *testing.T) {
	c := compiled(t, "", "o = 5 -> pre i / i;", false, 0)
	for _, n := range []int{0, 4} {
		state, in := values(bit(0), whole(8), bit(9))[:2], values(whole(n), bit(1), bit(9))[:2]
		_, next, err := c.Instant(state, in)
		if err != nil {
			t.Fatal(err)
		}
		next[1] = whole(99)
		_ = append(next, whole(77))
		if !slices.Equal(state[:3], values(bit(0), whole(8), bit(9))) || !slices.Equal(in[:3], values(whole(n), bit(1), bit(9))) {
			t.Errorf("%v, %v", state[:3], in[:3])
		}
	}
	c.Start()[1] = whole(9)
	if got := c.Start(); !slices.Equal(got, values(bit(1), whole(0))) {
		t.Errorf("%v", got)
	}
}

// TestCodeBySide: many may have one code at once.
func TestCodeBySide(t *testing.T) {
	r := rand.New(rand.NewSource(4))
	for range 20 {
		p := sample.Program(drawn(r, 600))
		in := sample.Inputs(drawn(r, 200), p, 30)
		want := runs(t, p, in)
		c, err := Compile(p, false, 0)
		if err != nil {
			t.Fatal(err)
		}
		got := make(chan []Tick)
		for range 4 {
			go func() {
				var l []Tick
				state := c.Start()
				for _, now := range in[:len(want)] {
					k, next, _ := c.Instant(state, now)
					l, state = append(l, k), next
				}
				got <- l
			}()
		}
		for range 4 {
			if l := <-got; !alike(l, want) {
				t.Errorf("%v, want %v", l, want)
			}
		}
	}
}
