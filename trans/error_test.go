package trans

import (
	"math"
	"math/rand"
	"reflect"
	"slices"
	"sort"
	"strconv"
	"testing"

	"lustrum/api"
	"lustrum/flat"
	"lustrum/flow"
	"lustrum/plain"
	"lustrum/sample"
	"lustrum/tree"
)

// refusedMake holds Make to an error; at -1: a bare one.
func refusedMake(t testing.TB, p flat.Program, at int, want error) {
	t.Helper()
	s, err := Make(p)
	if !reflect.DeepEqual(s, System{}) {
		t.Errorf("%+v with %v", s, err)
	}
	wantError(t, err, at, want)
}

func refusedRun(t testing.TB, p flat.Program, in [][]api.Value, at int, want error) {
	t.Helper()
	l, err := Run(p, in)
	if len(l) > 0 {
		t.Errorf("%+v with %v", l, err)
	}
	wantError(t, err, at, want)
}

func wantError(t testing.TB, err error, at int, want error) {
	t.Helper()
	if at < 0 {
		if err != want {
			t.Errorf("%#v, want %v", err, want)
		}
		return
	}
	if f, ok := err.(*api.Fault); !ok || f.At != at || f.Err != want {
		t.Errorf("%#v, want %v at %d", err, want, at)
	}
}

type wrongProgram struct {
	p   flat.Program
	at  int
	err error
}

func wrongPrograms(t testing.TB) []wrongProgram {
	tooBig := flat.Program{L: make([]flat.Flow, api.MaxFlat+1)}
	for i := range tooBig.L {
		tooBig.L[i] = flat.Flow{Name: strconv.Itoa(i), Kind: api.Bool, E: op("true")}
	}
	long := op("true")
	for range api.MaxTerms {
		long = op("not", long)
	}
	inputs := flat.Program{In: append(sample.Divisions(0).In, tree.Var{Name: "more", Kind: api.Bool})}
	return []wrongProgram{
		{flat.Program{Out: []string{"x"}}, -1, api.ErrShape},
		{flat.Program{L: []flat.Flow{{Name: "x", Kind: 3}}}, -1, api.ErrShape},
		{flat.Program{In: make([]tree.Var, 1)}, -1, api.ErrShape},
		{flat.Program{Asserts: make([]tree.Expr, 1)}, -1, api.ErrShape},
		{flat.Program{Checks: []tree.Expr{op("and", op("true"))}}, -1, api.ErrShape},
		{flat.Program{Checks: []tree.Expr{name("x")}}, -1, api.ErrShape},
		{flat.Program{Checks: []tree.Expr{{Op: "call", S: "n"}}}, -1, api.ErrShape},
		{flat.Program{Checks: []tree.Expr{op("=", number(128), number(0))}}, -1, api.ErrShape},
		{tooBig, -1, api.ErrBound},
		{flat.Program{Checks: []tree.Expr{long}}, -1, api.ErrBound},
		{inputs, -1, api.ErrBound},
		{flat.Program{L: []flat.Flow{{Name: "x", Kind: api.Int, E: op("true")}}}, -1, api.ErrType},
		{flat.Program{Asserts: []tree.Expr{number(1)}}, -1, api.ErrType},
		{made(t, "x: int", "o = i; x = x + 1;"), 1, api.ErrCycle},
		{made(t, "x: int; y: int", "o = i; x = y / 0; y = 1 -> x;"), 1, api.ErrCycle},
		{made(t, "", "o = pre i;"), 0, api.ErrFirst},
		{made(t, "x: int", "o = 1; x = pre pre i;"), 1, api.ErrFirst},
		{made(t, "", "o = 1; check pre b;"), -1, api.ErrFirst},
		{made(t, "", "o = 1; assert 1 / pre i = 1;"), -1, api.ErrFirst},
	}
}

// TestP140P141Programs: what is wrong with a program is told ahead of all else.
func TestP140P141Programs(t *testing.T) {
	for _, c := range wrongPrograms(t) {
		refusedMake(t, c.p, c.at, c.err)
		for _, in := range [][][]api.Value{nil, ins(1), {nil}, make([][]api.Value, api.MaxTicks+1)} {
			refusedRun(t, c.p, in, c.at, c.err)
		}
	}
}

func TestP141Bound(t *testing.T) {
	p := made(t, "", "o = 1 fby o + i;")
	most := slices.Repeat(ins(4), api.MaxTicks)
	if l, err := Run(p, most); len(l) != api.MaxTicks || err != nil || l[299].Out[0] != whole(1+299*4-5*256) {
		t.Errorf("%d ticks, %v", len(l), err)
	}
	more := append(slices.Clone(most), ins(4)...)
	refusedRun(t, p, more, -1, api.ErrBound)
	more[3] = nil
	refusedRun(t, p, more, -1, api.ErrBound)
	// What traps early is not asked: it is how many instants are handed in that counts.
	refusedRun(t, made(t, "", "o = 1 / 0;"), more, -1, api.ErrBound)
}

func TestP141Type(t *testing.T) {
	i, b := whole(1), bit(1)
	p := made(t, "", "o = 10 / i;")
	for _, wrong := range [][]api.Value{
		nil, {}, {i}, {i, b, b}, {b, i}, {i, i}, {b, b}, {{}, {}},
		{i, bit(2)}, {i, bit(-1)}, {i, bit(math.MinInt)}, {whole(128), b}, {whole(-129), b}, {whole(math.MaxInt), b}, {whole(256), b},
		{i, {Kind: 3, N: 1}}, {{Kind: 0, N: 1}, b}, make([]api.Value, 5000),
	} {
		for at := range 3 {
			in := ins(1, 2, 3)
			in[at] = wrong
			refusedRun(t, p, in, at, api.ErrType)
			in[2] = nil
			refusedRun(t, p, in, at, api.ErrType)
		}
		// What is wrong behind a trap is wrong, too.
		refusedRun(t, p, append(ins(0, 1), wrong), 2, api.ErrType)
	}
	none := read(t, "node n() returns (o: int); let o = 1; tel", "n")
	refusedRun(t, none, [][]api.Value{{}, nil, {i}}, 2, api.ErrType)
}

// TestP140Gates: more gates than a graph can have; one division fewer, and it is a program like others.
func TestP140Gates(t *testing.T) {
	fits := sort.Search(api.MaxFlat, func(n int) bool {
		_, err := Make(sample.Divisions(n + 1))
		return err != nil
	})
	if fits < 100 || fits >= api.MaxFlat {
		t.Fatalf("%d divisions fit", fits)
	}
	p := sample.Divisions(fits)
	x := newPair(t, p)
	if n := x.G.Gates(); n > api.MaxGates || n < api.MaxGates*9/10 {
		t.Errorf("%d gates", n)
	}
	in := make([]api.Value, api.MaxParts)
	for i := range in {
		in[i] = whole(37*i%101 - 50)
	}
	x.agree(x.m.State(), in)
	if l, err := Run(p, [][]api.Value{in}); len(l) != 1 || err != nil {
		t.Errorf("%v, %v", l, err)
	}
	for _, n := range []int{fits + 1, api.MaxFlat} {
		over := sample.Divisions(n)
		refusedMake(t, over, -1, api.ErrBound)
		refusedRun(t, over, nil, -1, api.ErrBound)
		refusedRun(t, over, [][]api.Value{in}, -1, api.ErrBound)
		// flow.Run's errors come ahead of Make's.
		refusedRun(t, over, [][]api.Value{in, nil}, 1, api.ErrType)
		refusedRun(t, over, [][]api.Value{in, in[1:]}, 1, api.ErrType)
		if _, err := flow.Run(over, [][]api.Value{in}, false, 0); err != nil {
			t.Error(err)
		}
	}
}

// spoiler changes a program at some place, so that it may be wrong.
type spoiler struct{ *rand.Rand }

func (s spoiler) any(l ...string) string { return l[s.Intn(len(l))] }

func (s spoiler) term(e *tree.Expr) {
	if len(e.L) > 0 && s.Intn(3) > 0 {
		s.term(&e.L[s.Intn(len(e.L))])
		return
	}
	switch s.Intn(6) {
	case 0:
		e.Op = s.any("pre", "not", "neg", "+", "/", "mod", "and", "=", "->", "fby", "if", "call", "name", "int", "true", "", "=>")
	case 1:
		e.S = s.any("", "i", "b", "f0", "f1", "f2", "zz")
	case 2:
		e.N += s.Intn(300) - 150
	case 3:
		e.L = append(e.L, number(s.Intn(3)))
	case 4:
		*e = op("pre", *e)
	case 5:
		*e = name(s.any("i", "b", "j", "f0", "f1", "f2", "f3"))
	}
}

func (s spoiler) program(p *flat.Program) {
	switch s.Intn(6) {
	case 0:
		p.Out = append(p.Out, s.any("i", "f0", "f1", "f2", ""))
	case 1:
		p.In = append(p.In, tree.Var{Name: s.any("i", "f0", "k", ""), Kind: s.Intn(4)})
	default:
		for _, l := range [][]tree.Expr{p.Asserts, p.Checks} {
			if len(l) > 0 && s.Intn(3) == 0 {
				s.term(&l[s.Intn(len(l))])
			}
		}
		if len(p.L) > 0 {
			f := &p.L[s.Intn(len(p.L))]
			s.term(&f.E)
			if s.Intn(9) == 0 {
				f.Kind = s.Intn(4)
			}
		}
	}
}

// TestP1Spoilt: of programs and inputs that may be wrong, the errors of flow.Run.
func TestP1Spoilt(t *testing.T) {
	r := rand.New(rand.NewSource(1))
	told := map[int]int{}
	for range 6000 {
		p := sample.Program(drawn(r, 300))
		in := sample.Inputs(drawn(r, 60), p, r.Intn(5))
		if r.Intn(3) > 0 {
			spoiler{r}.program(&p)
		} else if n := len(in); n > 0 && len(p.In) > 0 {
			in[r.Intn(n)][r.Intn(len(p.In))] = api.Value{Kind: r.Intn(4), N: r.Intn(400) - 200}
		}
		want, wantErr := flow.Run(p, in, false, 0)
		got, err := Run(p, in)
		code, at := plain.Code(err)
		wantCode, wantAt := plain.Code(wantErr)
		if !alike(got, want) || code != wantCode || at != wantAt {
			t.Fatalf("%v, %v: %v, %v, want %v, %v", p, in, got, err, want, wantErr)
		}
		told[code]++
		_, wantErr = flow.Run(p, nil, false, 0)
		s, err := Make(p)
		code, at = plain.Code(err)
		if wantCode, wantAt = plain.Code(wantErr); code != wantCode || at != wantAt || (s.G == nil) != (err != nil) {
			t.Fatalf("%v: %v, want %v", p, err, wantErr)
		}
	}
	// none, shape, type, cycle, first
	for code, least := range map[int]int{0: 1000, 3: 300, 5: 300, 6: 30, 7: 100} {
		if told[code] < least {
			t.Errorf("only %v", told)
		}
	}
}
