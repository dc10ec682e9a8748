package judge

import (
	"math"
	"slices"
	"strconv"
	"testing"

	"lustrum/api"
	"lustrum/flat"
	"lustrum/plain"
	"lustrum/prove"
)

// few verdicts of a program: of its trap wrong, of its checks safe, wrong, safe and unknown.
func few(t testing.TB) (flat.Program, []Verdict) {
	t.Helper()
	p := made(t, "i: int; j: int) returns (o: int)", "o = 1 -> 60 / pre i; check i + j - j = i; check o < 25; check o < 61; check j < 99; assert i < 50;")
	l := all(t, p, 3, 100000)
	if len(l[1].Proof.Base) < 20 || len(l[1].Proof.Step) < 20 {
		t.Fatal(l)
	}
	l[4] = Verdict{Kind: "unknown"}
	for i, want := range []string{"wrong", "safe", "wrong", "safe", "unknown"} {
		if l[i].Kind != want {
			t.Fatal(i, l[i].Kind)
		}
	}
	return p, l
}

// TestP171Shape: kinds that are none, and what stands beside a verdict that must not.
func TestP171Shape(t *testing.T) {
	p, right := few(t)
	told(t, Check(p, right), -1, nil)
	trace, proof, nothing := right[2].Trace, right[1].Proof, [][]api.Value{nil}
	for i, v := range right {
		for _, bad := range []Verdict{
			{}, {Kind: "Safe"}, {Kind: "none"}, {Kind: "tired"}, {Kind: "wrong "}, {Kind: " unknown"},
			{Kind: "", Trace: v.Trace, Proof: v.Proof},
			{Kind: "yes", Trace: trace}, {Kind: "proved", Proof: proof},
			{Kind: "safe", Trace: trace, Proof: proof},
			{Kind: "safe", Trace: trace, Proof: v.Proof},
			{Kind: "safe", Trace: nothing, Proof: v.Proof},
			{Kind: "safe", Trace: nothing},
			{Kind: "wrong", Trace: trace, Proof: proof},
			{Kind: "wrong", Trace: v.Trace, Proof: prove.Proof{K: 1}},
			{Kind: "wrong", Trace: v.Trace, Proof: prove.Proof{K: -1}},
			{Kind: "wrong", Trace: v.Trace, Proof: prove.Proof{Base: proof.Base}},
			{Kind: "wrong", Trace: v.Trace, Proof: prove.Proof{Step: []api.Clause{{}}}},
			{Kind: "wrong", Proof: prove.Proof{Base: []api.Clause{nil}}},
			{Kind: "unknown", Trace: trace}, {Kind: "unknown", Trace: nothing},
			{Kind: "unknown", Proof: proof}, {Kind: "unknown", Proof: prove.Proof{K: 3}},
			{Kind: "unknown", Proof: prove.Proof{Base: []api.Clause{{}}}},
			{Kind: "unknown", Proof: prove.Proof{Step: []api.Clause{{0}}}},
		} {
			l := slices.Clone(right)
			l[i] = bad
			told(t, Check(p, l), i, api.ErrShape)
		}
	}
}

// TestP171Empty: lists without anything in them are none.
func TestP171Empty(t *testing.T) {
	p, l := few(t)
	none := []api.Clause{}
	l[0].Proof, l[2].Proof = prove.Proof{Base: none}, prove.Proof{Step: none}
	l[1].Trace, l[3].Trace = [][]api.Value{}, l[0].Trace[:0]
	l[4] = Verdict{"unknown", [][]api.Value{}, prove.Proof{Base: none, Step: none}}
	told(t, Check(p, l), -1, nil)
	for i := range l {
		l[i] = Verdict{Kind: "unknown"}
	}
	told(t, Check(p, l), -1, nil)
}

// TestP171Many: not as many as All tells, however wrong they are.
func TestP171Many(t *testing.T) {
	p, l := few(t)
	for n := range len(l) {
		told(t, Check(p, l[:n]), -1, api.ErrShape)
		told(t, Check(p, make([]Verdict, n)), -1, api.ErrShape)
	}
	told(t, Check(p, nil), -1, api.ErrShape)
	told(t, Check(p, append(slices.Clone(l), l[4])), -1, api.ErrShape)
	told(t, Check(p, append(slices.Clone(l), Verdict{})), -1, api.ErrShape)
	told(t, Check(p, make([]Verdict, 1000)), -1, api.ErrShape)
	told(t, Check(flat.Program{}, nil), -1, api.ErrShape)
	told(t, Check(flat.Program{}, []Verdict{{}}), 0, api.ErrShape)
	told(t, Check(flat.Program{}, []Verdict{{Kind: "unknown"}}), -1, nil)
}

// TestP171Programs: what is wrong with a program is told ahead of all else.
func TestP171Programs(t *testing.T) {
	for _, w := range wrongPrograms(t) {
		for n := range 4 {
			told(t, Check(w.p, make([]Verdict, n)), w.at, w.err)
			told(t, Check(w.p, slices.Repeat([]Verdict{{Kind: "unknown"}}, n)), w.at, w.err)
		}
	}
}

// TestP171Order: the first one that is not right is told, and of that one its shape first.
func TestP171Order(t *testing.T) {
	p, right := few(t)
	l := slices.Clone(right)
	l[4].Kind = ""
	told(t, Check(p, l), 4, api.ErrShape)
	l[3].Proof.K = 0
	told(t, Check(p, l), 3, api.ErrBound)
	l[2].Trace = l[2].Trace[:1]
	told(t, Check(p, l), 2, api.ErrProof)
	l[2].Proof.K = 1
	told(t, Check(p, l), 2, api.ErrShape)
	l[1].Proof.Step = nil
	told(t, Check(p, l), 1, api.ErrProof)
	l[1].Trace = right[0].Trace
	told(t, Check(p, l), 1, api.ErrShape)
	l[0].Trace = nil
	told(t, Check(p, l), 0, api.ErrProof)
}

// TestP171Traces: by an instant that is wrong they end, whatever its number; else they are none.
func TestP171Traces(t *testing.T) {
	two := func(a, b int) []api.Value { return values(whole(a), whole(b)) }
	p := made(t, "i: int; j: int) returns (o: int)", "o = 1 -> 60 / pre i; check o < 25; check true -> j <> 9; assert i < 50; assert true -> pre i <> 7;")
	for n, w := range []struct {
		at int
		in [][]api.Value
		ok bool
	}{
		{1, [][]api.Value{two(2, 0), two(0, 0)}, true},
		{1, [][]api.Value{two(2, 0), two(2, 0), two(1, 3)}, true},
		{1, [][]api.Value{two(2, 0), two(50, 0)}, false},            // at the last one an assert does not hold
		{1, [][]api.Value{two(7, 0), two(2, 0), two(1, 0)}, false},  // nor at one ahead
		{1, [][]api.Value{two(2, 0), two(99, 0), two(1, 0)}, false}, // of no memory
		{1, [][]api.Value{two(2, 0)}, false},
		{1, [][]api.Value{two(2, 0), two(-2, 0), two(0, 0)}, false}, // one ahead is wrong, not the last one
		{1, [][]api.Value{two(0, 0), two(2, 0)}, false},             // it traps
		{1, [][]api.Value{two(0, 0), two(2, 0), two(2, 0)}, false},  // it has trapped
		{1, [][]api.Value{two(3, 0), two(2, 9)}, false},             // another check is wrong
		{2, [][]api.Value{two(3, 0), two(2, 9)}, true},
		{2, [][]api.Value{two(2, 0), two(3, 0), two(2, 9)}, true}, // another one was
		{2, [][]api.Value{two(0, 0), two(3, 9)}, false},
		{0, [][]api.Value{two(0, 0), two(3, 0)}, true},
		{0, [][]api.Value{two(0, 0), two(99, 9)}, true}, // of what traps no assert counts
		{0, [][]api.Value{two(5, 0), two(0, 0), two(3, 0)}, true},
		{0, [][]api.Value{two(5, 0), two(7, 0), two(0, 0), two(3, 0)}, false},
		{0, [][]api.Value{two(55, 0), two(0, 0), two(3, 0)}, false},
		{0, [][]api.Value{two(0, 0), two(3, 0), two(3, 0)}, false}, // it has trapped
		{0, [][]api.Value{two(0, 0)}, false},
		{0, [][]api.Value{two(2, 0), two(3, 0)}, false},
		{0, nil, false},
		{1, [][]api.Value{}, false},
		// what are none of the inputs
		{1, [][]api.Value{two(2, 0), nil}, false},
		{1, [][]api.Value{two(2, 0), values(whole(0))}, false},
		{1, [][]api.Value{two(2, 0), append(two(0, 0), whole(0))}, false},
		{1, [][]api.Value{values(whole(2), bit(0)), two(0, 0)}, false},
		{1, [][]api.Value{two(2, 0), values(bit(0), whole(0))}, false},
		{1, [][]api.Value{two(2, 128), two(0, 0)}, false},
		{1, [][]api.Value{two(2, 0), two(math.MinInt, 0)}, false},
		{0, [][]api.Value{two(0, 0), two(0, 300)}, false},
		{0, [][]api.Value{two(0, 0), nil}, false},
	} {
		t.Run(strconv.Itoa(n), func(t *testing.T) {
			l := []Verdict{{Kind: "unknown"}, {Kind: "unknown"}, {Kind: "unknown"}}
			l[w.at] = Verdict{Kind: "wrong", Trace: w.in}
			if w.ok {
				told(t, Check(p, l), -1, nil)
			} else {
				told(t, Check(p, l), w.at, api.ErrProof)
			}
		})
	}
}

// TestP171Long: a trace need not be as short as can be, and may have more instants than a run.
func TestP171Long(t *testing.T) {
	p := made(t, ib, "o = 0 fby (if b and o < 9 then o + 1 else o); check o < 3; check o < 9 or b;")
	for _, n := range []int{4, 5, 6, 7, api.MaxDepth + 1, api.MaxTicks, api.MaxTicks + 1, api.MaxTicks + 2, 5001, 5002} {
		var in [][]api.Value
		for i := range n {
			in = append(in, values(whole(i%100), bit(1-i%2)))
		}
		for at, isWrong := range map[int]bool{1: n > 5, 2: n > 17 && n%2 == 0} {
			l := []Verdict{{Kind: "unknown"}, {Kind: "unknown"}, {Kind: "unknown"}}
			l[at] = Verdict{Kind: "wrong", Trace: in}
			if isWrong {
				told(t, Check(p, l), -1, nil)
			} else {
				told(t, Check(p, l), at, api.ErrProof)
			}
		}
	}
}

// TestP171Proofs: prove.Check's errors, without the place that they have there.
func TestP171Proofs(t *testing.T) {
	p, right := few(t)
	x := right[1].Proof
	end := api.Clause{}
	long := make([]api.Clause, api.MaxClauses+1)
	for n, w := range []struct {
		x   prove.Proof
		err error
	}{
		{prove.Proof{}, api.ErrBound},
		{prove.Proof{K: 0, Base: x.Base, Step: x.Step}, api.ErrBound},
		{prove.Proof{K: -1, Base: x.Base, Step: x.Step}, api.ErrBound},
		{prove.Proof{K: api.MaxDepth + 1, Base: x.Base, Step: x.Step}, api.ErrBound},
		{prove.Proof{K: math.MaxInt}, api.ErrBound},
		{prove.Proof{K: x.K, Base: nil, Step: x.Step}, api.ErrProof},
		{prove.Proof{K: x.K, Base: x.Base, Step: nil}, api.ErrProof},
		{prove.Proof{K: x.K, Base: x.Base[:len(x.Base)-1], Step: x.Step}, api.ErrProof},
		{prove.Proof{K: x.K, Base: x.Base, Step: x.Step[:len(x.Step)-1]}, api.ErrProof},
		{prove.Proof{K: x.K, Base: []api.Clause{end}, Step: x.Step}, api.ErrProof},
		{prove.Proof{K: x.K, Base: x.Base, Step: []api.Clause{{1, -1}, {-2, 2}, {-1, 1}, end}}, api.ErrProof},
		{prove.Proof{K: x.K, Base: []api.Clause{{1, -1}, {0}}, Step: nil}, api.ErrShape},
		{prove.Proof{K: x.K, Base: x.Base, Step: []api.Clause{{api.MaxVars + 1}, end}}, api.ErrShape},
		{prove.Proof{K: x.K, Base: long, Step: x.Step}, api.ErrBound},
		{prove.Proof{K: x.K, Base: x.Base, Step: long}, api.ErrBound},
	} {
		t.Run(strconv.Itoa(n), func(t *testing.T) {
			l := slices.Clone(right)
			l[1].Proof = w.x
			told(t, Check(p, l), 1, w.err)
		})
	}
	// With more than it needs it is a proof, too.
	l := slices.Clone(right)
	l[1].Proof = prove.Proof{K: x.K, Base: append(slices.Clone(x.Base), end, api.Clause{1}), Step: append([]api.Clause{{1, -1}}, x.Step...)}
	told(t, Check(p, l), -1, nil)
}

// TestP171Others: what is proved of one check, or shown of it, is not so of another.
func TestP171Others(t *testing.T) {
	p := made(t, ib, "o = i * (i + 1); check o <> 12; check o mod 2 = 0; check o < 100 or b; check 6 / (o + 1) < 7;")
	right := all(t, p, 3, 100000)
	told(t, Check(p, right), -1, nil)
	for from, v := range right {
		for to := range right {
			l := slices.Clone(right)
			l[to] = v
			err := Check(p, l)
			if isRight(t, p, to-1, v) {
				told(t, err, -1, nil)
			} else {
				// A clause may be of a number that is none of the other check's, too.
				if code, at := plain.Code(err); at != to || code != 8 && (code != 3 || v.Kind != "safe") {
					t.Errorf("%d of %d: %v", from, to, err)
				}
			}
			if right[from].Kind != right[to].Kind && err == nil {
				t.Errorf("%d is what %d is", to, from)
			}
		}
	}
}
