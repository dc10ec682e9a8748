package reach

import (
	"math"
	"reflect"
	"slices"
	"strconv"
	"strings"
	"testing"

	"lustrum/api"
	"lustrum/flat"
	"lustrum/flow"
	"lustrum/step"
	"lustrum/tree"
)

func whole(n int) api.Value { return api.Value{Kind: api.Int, N: n} }

func bit(n int) api.Value { return api.Value{Kind: api.Bool, N: n} }

func values(l ...api.Value) []api.Value { return l }

// ints are choices of a program with one input.
func ints(l ...int) [][]api.Value {
	var choices [][]api.Value
	for _, n := range l {
		choices = append(choices, values(whole(n)))
	}
	return choices
}

// made of equations, with an input i, an output o, and what else is declared.
func made(t testing.TB, own, s string) flat.Program {
	t.Helper()
	return madeOf(t, "i: int", own, s)
}

func madeOf(t testing.TB, in, own, s string) flat.Program {
	t.Helper()
	if own != "" {
		own = "var " + own + ";"
	}
	l, err := tree.Read("node n(" + in + ") returns (o: int); " + own + " let " + s + " tel")
	if err != nil {
		t.Fatal(s, err)
	}
	p, err := flat.Make(l, "n")
	if err != nil {
		t.Fatal(s, err)
	}
	return p
}

// told of a search: how many states, what goes wrong, and, if it does, the inputs of each instant, with "/" between.
func told(x Told) string {
	var instants []string
	for _, in := range x.Trace {
		var words []string
		for _, v := range in {
			if v.Kind == api.Bool {
				words = append(words, string("ft"[v.N]))
			} else {
				words = append(words, strconv.Itoa(v.N))
			}
		}
		instants = append(instants, strings.Join(words, " "))
	}
	s := strconv.Itoa(x.States) + " states, " + strconv.Itoa(x.Check)
	if len(instants) > 0 {
		s += ": " + strings.Join(instants, "/")
	}
	return s
}

func searched(t *testing.T, p flat.Program, choices [][]api.Value, most int, want string) {
	t.Helper()
	x, err := Search(p, choices, most)
	if got := told(x); got != want || err != nil {
		t.Errorf("%q, %v, want %q", got, err, want)
	}
}

func refused(t *testing.T, p flat.Program, choices [][]api.Value, most int, want error) {
	t.Helper()
	x, err := Search(p, choices, most)
	if x.States != 0 || len(x.Trace) != 0 || x.Check != 0 || want == nil || !reflect.DeepEqual(err, want) {
		t.Errorf("%v, %v, want %v", x, err, want)
	}
}

// sought is a search of a program with an input i.
type sought struct {
	own, s  string
	choices [][]api.Value
	want    string
}

func searchAll(t *testing.T, l []sought) {
	t.Helper()
	for _, c := range l {
		x, err := Search(made(t, c.own, c.s), c.choices, 3000)
		if got := told(x); got != c.want || err != nil {
			t.Errorf("%s %v: %q, %v, want %q", c.s, c.choices, got, err, c.want)
		}
	}
}

// TestP80States: how many are reached, if nothing goes wrong.
func TestP80States(t *testing.T) {
	searchAll(t, []sought{
		{"", "o = i;", nil, "1 states, -2"},
		{"", "o = i; check false;", nil, "1 states, -2"},
		// a program without memories has the beginning, and one state behind it
		{"", "o = i;", ints(1, 2, 3), "2 states, -2"},
		{"", "o = i; check i < 9;", ints(1, 2, 3), "2 states, -2"},
		{"", "o = 0 fby i;", ints(1, 2, 3), "4 states, -2"},
		{"", "o = 0 fby i;", ints(1, 2, 1, 1), "3 states, -2"},
		{"", "o = (0 fby i) + (0 fby i mod 2);", ints(1, 2, 3), "4 states, -2"},
		{"", "o = 0 fby i mod 2;", ints(1, 2, 3), "3 states, -2"},
		{"", "o = 0 fby 0 fby i;", ints(1, 2), "7 states, -2"}, // 0 1, 0 2, and four more
		// the beginning is a state of its own, even if its memories are those of another one
		{"", "o = 0 fby i;", ints(0), "2 states, -2"},
		{"", "o = 0 fby o;", ints(7), "2 states, -2"},
		// each int is another one
		{"", "o = 0 fby i;", ints(127, -128, -1, 0, 1, 126, -127), "8 states, -2"},
		{"", "o = 0 -> pre o + 1;", ints(5), "257 states, -2"},
		{"", "o = 0 -> pre o + 2;", ints(5), "129 states, -2"},
		{"", "o = 0 -> pre o + i;", ints(0, 64), "5 states, -2"},
		// also a bool; and memories of asserts and checks are of the state
		{"x: bool", "o = 1; x = true -> not pre x;", ints(7), "3 states, -2"},
		{"x: bool", "o = 1; x = i > 0; check true -> pre x or true;", ints(1, -1), "3 states, -2"},
		{"x: bool", "o = 1; x = i > 0; assert true -> pre x or true;", ints(1, -1), "3 states, -2"},
	})
}

// TestP80Found: the first check that does not hold, and as many states as until then.
func TestP80Found(t *testing.T) {
	searchAll(t, []sought{
		{"", "o = i; check i < 2;", ints(1, 2, 3), "2 states, 0: 2"},
		{"", "o = i; check i < 2;", ints(3, 2, 1), "1 states, 0: 3"},
		{"", "o = i; check i < 5; check i < 3; check i < 3;", ints(1, 4, 7), "2 states, 1: 4"},
		{"", "o = i; check i < 5; check i < 3; check i < 3;", ints(1, 7, 4), "2 states, 0: 7"},
		{"", "o = 0 fby i; check o < 3;", ints(1, 2, 3), "4 states, 0: 3/1"},
		{"", "o = 0 fby i; check o < 3 or i < 2;", ints(1, 2, 3), "4 states, 0: 3/2"},
		{"", "o = 0 -> pre i * i; check o <> 6;", ints(1, 2, 3), "4 states, 0: 2/3"},
		{"", "o = 0 -> pre o + i; check o >= 0;", ints(0, 64), "3 states, 0: 0/64/64"},
		{"", "o = 0 -> pre o - i; check o <= 0;", ints(-64, 0), "2 states, 0: -64/-64"},
		{"", "o = 0 -> pre o + 1; check o < 3; check o < 2;", ints(9), "3 states, 1: 9/9/9"},
		// the state behind what goes wrong is not reached, nor is what could be tried later
		{"", "o = 0 fby i; check i < 3;", ints(1, 3, 2), "2 states, 0: 3"},
	})
}

// TestP80Breadth: states in the order in which they were reached, choices in their order; a state's way is the first one that was there.
func TestP80Breadth(t *testing.T) {
	searchAll(t, []sought{
		{"", "o = 0 -> pre o + i; check o < 6;", ints(1, 3), "6 states, 0: 1/3/3"},
		{"", "o = 0 -> pre o + i; check o < 6;", ints(3, 1), "4 states, 0: 3/3/3"},
		{"", "o = 0 -> pre o + i; check o <> 4;", ints(1, 2, 3), "5 states, 0: 1/1/3"},
		{"", "o = 0 -> pre o + i; check o <> 5;", ints(1, 2, 3), "6 states, 0: 1/2/3"},
		{"", "o = 0 -> pre o + i; check o <> 7;", ints(1, 2, 3), "8 states, 0: 1/1/3/3"},
		{"", "o = 0 -> pre o + i; check o <> 7;", ints(3, 2, 1), "10 states, 0: 3/3/3/1"},
		{"", "o = 0 -> pre o * 10 + i; check o <> 21;", ints(1, 2), "6 states, 0: 1/2/1"},
		// the check that is found is that of the first way, though another one has a smaller number
		{"", "o = i; check i <> 5; check i <> 4;", ints(4, 5), "1 states, 1: 4"},
		// so is a trap
		{"", "o = 6 / i; check i <> 5;", ints(0, 5), "1 states, -1: 0"},
		{"", "o = 6 / i; check i <> 5;", ints(5, 0), "1 states, 0: 5"},
	})
}

// TestP80Asserts: where one does not hold nothing is found, and nothing is reached.
func TestP80Asserts(t *testing.T) {
	searchAll(t, []sought{
		{"", "o = i; assert i > 1; check i > 1;", ints(1, 2), "2 states, -2"},
		{"", "o = i; assert i > 2; check i > 2;", ints(1, 2), "1 states, -2"},
		{"", "o = i; assert i > 1; check i > 2;", ints(1, 2), "1 states, 0: 2"},
		{"", "o = i; assert i > 1; assert i < 4; check i = 2;", ints(1, 4, 2), "2 states, -2"},
		{"", "o = i; assert i > 1; assert i < 4; check i = 2;", ints(1, 4, 2, 3), "2 states, 0: 3"},
		{"", "o = 0 fby i; assert i <> 3; check o <> 3;", ints(1, 2, 3), "3 states, -2"},
		{"", "o = 0 fby i; assert o <> 3; check o < 3;", ints(1, 2, 3), "4 states, -2"},
		{"", "o = 0 fby i; assert o <> 3; check o < 3;", ints(1, 3, 4), "4 states, 0: 4/1"},
		{"", "o = 0 -> pre o + 1; assert o < 5; check o < 5;", ints(0), "6 states, -2"},
		{"", "o = 0 -> pre o + 1; assert o < 5; check o < 4;", ints(0), "5 states, 0: 0/0/0/0/0"},
		// what once went wrong with an assert leads nowhere
		{"", "o = 0 -> pre o + i; assert o <> 2; check o < 4;", ints(1), "3 states, -2"},
		{"", "o = 0 -> pre o + i; assert o <> 2; check o < 4;", ints(1, 2), "4 states, 0: 1/1/2/1"},
	})
}

// TestP80Traps: they are found whatever asserts and checks would be.
func TestP80Traps(t *testing.T) {
	searchAll(t, []sought{
		{"", "o = 6 / i;", ints(1, 0), "2 states, -1: 0"},
		{"", "o = 6 mod i;", ints(0, 1), "1 states, -1: 0"},
		{"", "o = 6 / i; assert i <> 0;", ints(1, 0), "2 states, -1: 0"},
		{"", "o = 6 / i; check i <> 0;", ints(1, 0), "2 states, -1: 0"},
		{"", "o = i; assert 6 / i > 5; check i < 2;", ints(2, 1, 0), "2 states, -1: 0"},
		{"", "o = i; check 6 / i > 2;", ints(2, 0), "2 states, -1: 0"},
		{"", "o = i; check i = 7 or 6 / i > 2;", ints(2, 7, 0), "2 states, -1: 0"},
		// wherever it stands
		{"", "o = if i = 0 then 0 else 6 / i;", ints(1, 0), "2 states, -1: 0"},
		{"x: int", "o = 1; x = 6 / i;", ints(1, 0), "2 states, -1: 0"},
		// but not where it is late
		{"", "o = 0 -> 6 / pre i;", ints(0), "2 states, -1: 0/0"},
		{"", "o = 0 -> 6 / pre i;", ints(1, 0), "3 states, -1: 0/1"},
		{"x: int", "o = 0 -> pre o + 1; x = 6 / (3 - o);", ints(7), "4 states, -1: 7/7/7/7"},
		// nor behind an assert that does not hold
		{"x: int", "o = 0 -> pre o + 1; x = 6 / (3 - o); assert o < 2;", ints(7), "3 states, -2"},
		{"x: int", "o = 0 -> pre o + 1; x = 6 / (3 - o); assert o < 3;", ints(7), "4 states, -1: 7/7/7/7"},
	})
}

func TestP80Inputs(t *testing.T) {
	p := madeOf(t, "i: int; b: bool", "", "o = 0 -> if pre b then pre o + i else pre o; check o < 5;")
	up, stay := values(whole(3), bit(1)), values(whole(-1), bit(0))
	searched(t, p, [][]api.Value{up}, 50, "3 states, 0: 3 t/3 t/3 t")
	searched(t, p, [][]api.Value{stay}, 50, "2 states, -2")
	searched(t, p, [][]api.Value{stay, up}, 50, "7 states, 0: 3 t/3 t/3 t")
	// Programs without inputs have one choice, at most, but it may be there twice.
	p = madeOf(t, "", "", "o = 0 -> pre o + 1; check o < 2;")
	searched(t, p, nil, 50, "1 states, -2")
	for _, choices := range [][][]api.Value{{nil}, {{}}, {nil, {}, nil}} {
		searched(t, p, choices, 50, "3 states, 0: //")
	}
	searched(t, flat.Program{}, nil, 1, "1 states, -2")
	searched(t, flat.Program{}, [][]api.Value{nil}, 2, "2 states, -2")
	searched(t, flat.Program{Checks: []tree.Expr{{Op: "true"}, {Op: "false"}}}, [][]api.Value{nil}, 1, "1 states, 1: ")
	searched(t, flat.Program{Asserts: []tree.Expr{{Op: "false"}}}, [][]api.Value{nil}, 1, "1 states, -2")
}

// TestP82Shortest: from 0 the shortest way around to -128 is 9 times 100 and 4 times -1, of which the first one counts.
func TestP82Shortest(t *testing.T) {
	x, err := Search(made(t, "", "o = 0 -> pre o + i; check o + 127 <> -1;"), ints(1, -1, 100), 300)
	if s := told(x); err != nil || !strings.HasSuffix(s, " states, 0: 1/-1/-1/-1/-1/100/100/100/100/100/100/100/100/100") {
		t.Error(s, err)
	}
}

// counter that has 2999 states behind the beginning, if last is -74.
func counter(t *testing.T, last, check string) flat.Program {
	t.Helper()
	return made(t, "y: int; end: bool", "o = 0 -> if pre end then 0 else pre o + 1; y = 0 -> if pre end then 0 else if pre o = -1 then pre y + 1 else pre y; end = y = 11 and o = "+last+"; check "+check+";")
}

func TestP81Most(t *testing.T) {
	up := made(t, "", "o = 0 -> pre o + 1;")
	for _, most := range []int{257, 258, 2999, 3000} {
		searched(t, up, ints(1, 2), most, "257 states, -2")
	}
	for _, most := range []int{1, 2, 100, 256, 0, -1, -257, 3001, math.MaxInt, math.MinInt} {
		refused(t, up, ints(1, 2), most, api.ErrBound)
	}
	searched(t, up, nil, 1, "1 states, -2")
	for _, most := range []int{0, -1, 3001, math.MaxInt, math.MinInt} {
		refused(t, up, nil, most, api.ErrBound)
	}
	// What is found ahead of the state that would be too many is found; what comes behind is not.
	wrong := made(t, "", "o = i; check i < 2;")
	searched(t, wrong, ints(2, 1), 1, "1 states, 0: 2")
	refused(t, wrong, ints(1, 2), 1, api.ErrBound)
	searched(t, wrong, ints(1, 2), 2, "2 states, 0: 2")
	trap := made(t, "", "o = 6 / i;")
	searched(t, trap, ints(0, 1), 1, "1 states, -1: 0")
	refused(t, trap, ints(1, 0), 1, api.ErrBound)
	deep := made(t, "", "o = 0 -> pre o + i; check o < 6;")
	searched(t, deep, ints(1, 3), 6, "6 states, 0: 1/3/3")
	refused(t, deep, ints(1, 3), 5, api.ErrBound)
	// A state is not too many if an assert keeps it away, or if it is there.
	searched(t, made(t, "", "o = i; assert i > 5;"), ints(1, 2), 1, "1 states, -2")
	searched(t, made(t, "", "o = 0 fby i; assert i < 3;"), ints(1, 2, 3, 4, 1, 2), 3, "3 states, -2")
}

// TestP81Greatest: as many states as there may be, and one more.
func TestP81Greatest(t *testing.T) {
	searched(t, counter(t, "-74", "true"), ints(1, 2), 3000, "3000 states, -2")
	refused(t, counter(t, "-74", "true"), ints(1, 2), 2999, api.ErrBound)
	refused(t, counter(t, "-73", "true"), ints(1, 2), 3000, api.ErrBound)
	p := counter(t, "-74", "not end")
	x, err := Search(p, ints(1, 2), 2999)
	if x.States != 2999 || x.Check != 0 || len(x.Trace) != 2999 || err != nil {
		t.Fatalf("%d states, %d, %d instants, %v", x.States, x.Check, len(x.Trace), err)
	}
	m, err := step.New(p, true, 5)
	if err != nil {
		t.Fatal(err)
	}
	for n, in := range x.Trace {
		k, err := m.Tick(in)
		if holds := n < 2998; !slices.Equal(in, values(whole(1))) || err != nil || k.Checks[0] != holds {
			t.Fatalf("instant %d: %v, %v", n, k, err)
		}
	}
	refused(t, p, ints(1, 2), 2998, api.ErrBound)
}

// wrongPrograms: those that flow.Run refuses.
func wrongPrograms(t *testing.T) []flat.Program {
	tooBig := flat.Program{L: make([]flat.Flow, api.MaxFlat+1)}
	for i := range tooBig.L {
		tooBig.L[i] = flat.Flow{Name: strconv.Itoa(i), Kind: api.Bool, E: tree.Expr{Op: "true"}}
	}
	return []flat.Program{
		tooBig,
		{Out: []string{"x"}},
		{L: []flat.Flow{{Name: "x", Kind: 3}}},
		{L: []flat.Flow{{Name: "x", Kind: api.Int, E: tree.Expr{Op: "true"}}}},
		{L: []flat.Flow{{Name: "x", Kind: api.Int, E: tree.Expr{Op: "pre"}}}},
		{Checks: []tree.Expr{{}}},
		made(t, "x: int", "o = i; x = x + 1;"),
		made(t, "", "o = pre i;"),
		made(t, "x: int", "o = 1; x = pre pre i;"),
		made(t, "", "o = 1; check pre i = 1;"),
		made(t, "", "o = 1; assert 1 / pre i = 1;"),
	}
}

// TestP81Program: its errors come first.
func TestP81Program(t *testing.T) {
	for _, p := range wrongPrograms(t) {
		_, want := flow.Run(p, nil, false, 0)
		for _, most := range []int{1, 3000, 0, 3001} {
			for _, choices := range [][][]api.Value{nil, ints(1), {nil}, {{bit(7)}}, make([][]api.Value, 101)} {
				refused(t, p, choices, most, want)
			}
		}
	}
	refused(t, made(t, "x: int", "o = i; x = x + 1;"), nil, 5, &api.Fault{At: 1, Err: api.ErrCycle})
}

func TestP81Choices(t *testing.T) {
	p := made(t, "", "o = i;")
	searched(t, p, slices.Repeat(ints(1), 100), 5, "2 states, -2")
	refused(t, p, slices.Repeat(ints(1), 101), 5, api.ErrBound)
	refused(t, p, slices.Repeat(ints(1), 100000), 5, api.ErrBound)
	// All of the choices are tried.
	var all []int
	for n := range 100 {
		all = append(all, n)
	}
	p = made(t, "", "o = 0 fby i; check o <> 99 or i < 99;")
	searched(t, p, ints(all...), 102, "101 states, 0: 99/99")
}

// TestP81Type: it is told of the first choice that cannot be the inputs, ahead of whatever would be found, but behind bounds.
func TestP81Type(t *testing.T) {
	p := madeOf(t, "i: int; b: bool", "", "o = 5 / i; check b;")
	i, b := whole(1), bit(1)
	right := values(i, b)
	for _, wrong := range [][]api.Value{
		nil, {}, {i}, {i, b, b}, {b, i}, {i, i}, {b, b}, {{}, {}}, {whole(0)},
		{i, bit(2)}, {i, bit(-1)}, {i, bit(math.MinInt)}, {whole(128), b}, {whole(-129), b}, {whole(math.MaxInt), b},
		{i, {Kind: 3, N: 1}}, {{Kind: 0, N: 1}, b}, make([]api.Value, 5000),
	} {
		for _, most := range []int{1, 2, 3000} {
			refused(t, p, [][]api.Value{wrong}, most, &api.Fault{At: 0, Err: api.ErrType})
			refused(t, p, [][]api.Value{right, wrong, wrong}, most, &api.Fault{At: 1, Err: api.ErrType})
			refused(t, p, [][]api.Value{{whole(0), b}, {i, bit(0)}, right, wrong, right}, most, &api.Fault{At: 3, Err: api.ErrType})
			refused(t, p, append(slices.Repeat([][]api.Value{right}, 99), wrong), most, &api.Fault{At: 99, Err: api.ErrType})
		}
		for _, most := range []int{0, 3001} {
			refused(t, p, [][]api.Value{wrong}, most, api.ErrBound)
		}
		refused(t, p, slices.Repeat([][]api.Value{wrong}, 101), 5, api.ErrBound)
	}
	refused(t, flat.Program{}, [][]api.Value{nil, {b}}, 5, &api.Fault{At: 1, Err: api.ErrType})
}

// TestP4Memory: what is handed over is only read; what is answered is nobody else's, and no two lists of it are one.
func TestP4Memory(t *testing.T) {
	p := made(t, "", "o = 0 -> pre o + i; assert o < 100; check o < 6;")
	before, err := flat.Text(p)
	if err != nil {
		t.Fatal(err)
	}
	row := values(whole(1), whole(3), bit(5)) // what lies behind lengths is nobody's
	choices := [][]api.Value{row[0:1], row[1:2], nil}[:2]
	x, err := Search(p, choices, 50)
	if told(x) != "6 states, 0: 1/3/3" || err != nil {
		t.Fatal(told(x), err)
	}
	again, _ := Search(p, choices, 50)
	x.Trace[1][0] = whole(77)
	if told(x) != "6 states, 0: 1/77/3" {
		t.Error(told(x))
	}
	for i := range x.Trace {
		x.Trace[i][0] = whole(88)
		_ = append(x.Trace[i], whole(99))
	}
	_ = append(x.Trace, nil)
	if after, err := flat.Text(p); after != before || err != nil {
		t.Errorf("%s, %v", after, err)
	}
	if !slices.Equal(row, values(whole(1), whole(3), bit(5))) || choices[:3][2] != nil {
		t.Errorf("%v, %v", row, choices)
	}
	searched(t, p, choices, 50, "6 states, 0: 1/3/3")
	// A later change of what was handed in does not show.
	row[0], row[1], choices[0] = whole(9), whole(9), nil
	p.L[0].E.Op = "fby"
	if told(again) != "6 states, 0: 1/3/3" {
		t.Error(told(again))
	}
}

// TestP2BySide: searches that go on at once are nothing to each other.
func TestP2BySide(t *testing.T) {
	p, choices := made(t, "", "o = 0 -> pre o + i; check o + 127 <> -1;"), ints(1, -1, 100)
	want, _ := Search(p, choices, 300)
	got := make(chan Told)
	for range 8 {
		go func() {
			x, _ := Search(p, choices, 300)
			got <- x
		}()
	}
	for range 8 {
		if x := <-got; !reflect.DeepEqual(x, want) {
			t.Errorf("%v, want %v", x, want)
		}
	}
}

// TestP1Great: programs as big and as deep as there are.
func TestP1Great(t *testing.T) {
	past := tree.Expr{Op: "name", S: "i"}
	for range (api.MaxTerms - 1) / 2 {
		past = tree.Expr{Op: "fby", L: []tree.Expr{{Op: "int", N: 7}, past}}
	}
	p := flat.Program{In: []tree.Var{{Name: "i", Kind: api.Int}}, Out: []string{"o"}, L: []flat.Flow{{Name: "o", Kind: api.Int, E: past}}}
	// By one input its memories fill one by one; by two there are too many ways to fill them.
	searched(t, p, ints(1), 3000, strconv.Itoa((api.MaxTerms-1)/2+1)+" states, -2")
	refused(t, p, ints(1, 2), 3000, api.ErrBound)
}
