package judge

import (
	"math/rand"
	"slices"
	"strconv"
	"strings"
	"testing"

	"lustrum/api"
	"lustrum/flat"
	"lustrum/flow"
	"lustrum/sample"
)

// allInputs of a program: all values of its bools, and of its ints; nil: they are too many.
func allInputs(p flat.Program) [][]api.Value {
	all := [][]api.Value{nil}
	for _, v := range p.In {
		least, count := 0, 2
		if v.Kind == api.Int {
			least, count = -128, 256
		}
		if len(all)*count > 600 {
			return nil
		}
		var next [][]api.Value
		for _, l := range all {
			for n := range count {
				next = append(next, append(slices.Clone(l), api.Value{Kind: v.Kind, N: least + n}))
			}
		}
		all = next
	}
	return all
}

// second way, by the document's words: all inputs at all states, from the beginning on.
type second struct {
	first []int // of the trap, then of each check: with how many instants it is wrong first; 0: never, as far as was looked
	whole bool  // was all looked at?
	most  int   // of how many instants all was looked at, if not of whatever number
}

// secondOf a program, of which so many instants may be worked out.
func secondOf(t testing.TB, p flat.Program, instants int) second {
	t.Helper()
	code, err := flow.Compile(p, false, 0)
	if err != nil {
		t.Fatal(err)
	}
	inputs := allInputs(p)
	x := second{first: make([]int, 1+len(p.Checks))}
	layer := map[string][]api.Value{key(code.Start()): code.Start()}
	known := map[string]struct{}{key(code.Start()): {}}
	for n := 1; len(layer) > 0; n++ {
		if instants -= len(layer) * len(inputs); instants < 0 || inputs == nil {
			return x
		}
		next := map[string][]api.Value{}
		for _, state := range layer {
			for _, in := range inputs {
				k, to, err := code.Instant(state, in)
				if err != nil {
					t.Fatal(err)
				}
				x.look(k, n)
				_, isKnown := known[key(to)]
				if k.Assert && !isKnown {
					next[key(to)] = to
					known[key(to)] = struct{}{}
				}
			}
		}
		layer = next
		x.most = n
	}
	x.whole = true
	return x
}

func key(l []api.Value) string {
	var b strings.Builder
	for _, v := range l {
		b.WriteByte(byte(v.N))
	}
	return b.String()
}

// look at what is wrong at the last of so many instants, all of whose asserts ahead hold.
func (x *second) look(k flow.Tick, n int) {
	if k.Trap && x.first[0] == 0 {
		x.first[0] = n
	}
	for i, holds := range k.Checks {
		if k.Assert && !holds && x.first[1+i] == 0 {
			x.first[1+i] = n
		}
	}
}

// seen counts what was judged.
type seen struct {
	safe, deep, wrong, later, unknown, tired int
}

func (s *seen) count(v Verdict) {
	switch v.Kind {
	case "safe":
		s.safe++
		if v.Proof.K > 1 {
			s.deep++
		}
	case "wrong":
		s.wrong++
		if len(v.Trace) > 1 {
			s.later++
		}
	default:
		s.unknown++
	}
}

// agree with the second way about all verdicts of a program, and about those that are lies.
func agree(t testing.TB, s *seen, p flat.Program, depth, instants int) {
	t.Helper()
	x := secondOf(t, p, instants)
	l := all(t, p, depth, api.MaxEffort)
	told(t, Check(p, l), -1, nil)
	for i, v := range l {
		first := x.first[i]
		switch {
		case first > 0 && first <= depth && (v.Kind != "wrong" || len(v.Trace) != first):
		case first > depth && v.Kind != "unknown":
		case first == 0 && v.Kind == "wrong" && (x.whole || len(v.Trace) <= x.most):
		default:
			s.count(v)
			continue
		}
		t.Fatalf("%s%d: %s %d, but it is wrong first at %d", text(t, p), i-1, v.Kind, size(v), first)
	}
	s.tires(t, p, depth, l)
	lies(t, p, l)
}

// tires: with little effort it tells the same, or nothing.
func (s *seen) tires(t testing.TB, p flat.Program, depth int, l []Verdict) {
	t.Helper()
	for i, v := range all(t, p, depth, 0) {
		if v.Kind == "unknown" && l[i].Kind != "unknown" {
			s.tired++
		} else if v.Kind != l[i].Kind || size(v) != size(l[i]) {
			t.Fatalf("%s%d: %s %d, %s %d", text(t, p), i-1, v.Kind, size(v), l[i].Kind, size(l[i]))
		}
	}
}

// lies are told, and none is both: what is wrong by a trace has no proof, what is safe no trace.
func lies(t testing.TB, p flat.Program, right []Verdict) {
	t.Helper()
	r := rand.New(rand.NewSource(int64(len(text(t, p)))))
	for to := range right {
		for _, v := range right {
			l := slices.Clone(right)
			l[to] = v
			err := Check(p, l)
			if ok := isRight(t, p, to-1, v); ok != (err == nil) || ok && v.Kind != right[to].Kind && v.Kind != "unknown" && right[to].Kind != "unknown" {
				t.Fatalf("%s%d: %v, %v", text(t, p), to-1, v, err)
			}
		}
		l := slices.Clone(right)
		l[to] = Verdict{Kind: "wrong", Trace: sample.Inputs(drawn(r, 99), p, 1+r.Intn(5))}
		if err := Check(p, l); leads(t, p, to-1, l[to].Trace) != (err == nil) || right[to].Kind == "safe" && err == nil {
			t.Fatalf("%s%d: %v, %v", text(t, p), to-1, l[to], err)
		}
	}
}

func TestP172Bools(t *testing.T) {
	t.Parallel()
	r := rand.New(rand.NewSource(170))
	s := new(seen)
	for range 400 {
		agree(t, s, sample.Bools(drawn(r, 300), r.Intn(6)), 1+r.Intn(6), 20000)
	}
	if s.safe < 600 || s.deep < 35 || s.wrong < 150 || s.later < 40 || s.unknown < 25 || s.tired < 30 {
		t.Errorf("only %+v", *s)
	}
}

// TestP172All: of few memories, with as many instants as there can be, nothing is unknown.
func TestP172All(t *testing.T) {
	t.Parallel()
	r := rand.New(rand.NewSource(171))
	s := new(seen)
	for range 400 {
		agree(t, s, sample.Bools(drawn(r, 300), r.Intn(5)), api.MaxDepth, 20000)
	}
	if s.safe < 600 || s.deep < 30 || s.wrong < 150 || s.later < 45 || s.unknown > 0 {
		t.Errorf("only %+v", *s)
	}
}

func TestP172Samples(t *testing.T) {
	t.Parallel()
	r := rand.New(rand.NewSource(172))
	s := new(seen)
	for range 400 {
		agree(t, s, sample.Program(drawn(r, 600)), 1+r.Intn(4), 3000)
	}
	if s.safe < 200 || s.wrong < 100 || s.later < 10 || s.unknown < 10 || s.tired < 5 {
		t.Errorf("only %+v", *s)
	}
}

// ints: an int goes its way, by one input; it may trap, or not hold to an assert, at some of its states.
func ints(t testing.TB, r *rand.Rand) flat.Program {
	t.Helper()
	n := func(n int) string { return strconv.Itoa(r.Intn(n)) }
	s := "o = " + n(5) + " fby (if b then (o * " + n(4) + " + " + n(9) + ") mod " + strconv.Itoa(2+r.Intn(20)) + " else o "
	s += []string{"+ 1", "- 1", "/ 2", "* 2", "/ (o - " + n(9) + ")", "mod 3"}[r.Intn(6)] + "); "
	s += "check o <> " + n(60) + "; check o < " + n(60) + " or b; check o > -" + n(9) + "; assert o <> " + n(60) + " or b;"
	return made(t, "b: bool) returns (o: int)", s)
}

func TestP172Ints(t *testing.T) {
	t.Parallel()
	r := rand.New(rand.NewSource(173))
	s := new(seen)
	for range 60 {
		agree(t, s, ints(t, r), 1+r.Intn(12), 3000)
	}
	if s.safe < 80 || s.deep < 15 || s.wrong < 20 || s.later < 20 || s.unknown < 30 || s.tired < 40 {
		t.Errorf("only %+v", *s)
	}
}

func FuzzJudge(f *testing.F) {
	r := rand.New(rand.NewSource(174))
	f.Add(drawn(r, 300), byte(3))
	f.Add(drawn(r, 300), byte(101))
	f.Add(drawn(r, 600), byte(200))
	f.Fuzz(func(t *testing.T, choices []byte, n byte) {
		if len(choices) > 600 {
			return
		}
		p := sample.Program(choices)
		if n%2 == 0 {
			p = sample.Bools(choices, int(n)/2%6)
		}
		agree(t, new(seen), p, 1+int(n)/12%5, 3000)
	})
}
