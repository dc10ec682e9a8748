package step

import (
	"errors"
	"math"
	"reflect"
	"slices"
	"strconv"
	"strings"
	"testing"

	"lustrum/api"
	"lustrum/flat"
	"lustrum/flow"
	"lustrum/order"
	"lustrum/tree"
)

func whole(n int) api.Value { return api.Value{Kind: api.Int, N: n} }

func bit(n int) api.Value { return api.Value{Kind: api.Bool, N: n} }

func values(l ...api.Value) []api.Value { return l }

// made of equations, with inputs i and b, an output o, and what else is declared.
func made(t testing.TB, own, s string) flat.Program {
	t.Helper()
	if own != "" {
		own = "var " + own + ";"
	}
	l, err := tree.Read("node last(u: int) returns (v: int); let v = 0 -> pre u; check u > 0 fby true; tel node n(i: int; b: bool) returns (o: int); " + own + " let " + s + " tel")
	if err != nil {
		t.Fatal(s, err)
	}
	p, err := flat.Make(l, "n")
	if err != nil {
		t.Fatal(s, err)
	}
	return p
}

func machine(t testing.TB, p flat.Program, nilBool bool, nilInt int) *Machine {
	t.Helper()
	m, err := New(p, nilBool, nilInt)
	if err != nil || m == nil {
		t.Fatal(err)
	}
	return m
}

// told of a state: bools as letters, ints as numbers.
func told(l []api.Value) string {
	var words []string
	for _, v := range l {
		if v.Kind == api.Bool {
			words = append(words, string("ft"[v.N]))
		} else {
			words = append(words, strconv.Itoa(v.N))
		}
	}
	return strings.Join(words, " ")
}

func wantState(t *testing.T, m *Machine, want string) {
	t.Helper()
	if got := told(m.State()); got != want {
		t.Errorf("state %q, want %q", got, want)
	}
}

// wantTick: "trap", or the outputs, and "?" where an assert does not hold, and "!" for each check that does not.
func wantTick(t *testing.T, m *Machine, i, b int, want string) {
	t.Helper()
	k, err := m.Tick(values(whole(i), bit(b)))
	got := told(k.Out)
	switch {
	case k.Trap && len(k.Out)+len(k.Checks) == 0 && !k.Assert:
		got = "trap"
	case !k.Assert:
		got += "?"
	}
	for _, holds := range k.Checks {
		if !holds {
			got += "!"
		}
	}
	if got != want || err != nil {
		t.Errorf("%d, %d: %q, %v, want %q", i, b, got, err, want)
	}
}

// TestP70Memories: which there are, and in which order: seen behind an instant at which each part has another value.
func TestP70Memories(t *testing.T) {
	for _, c := range []struct {
		own, s, start, behind string
	}{
		{"", "o = i;", "t", "f"},
		{"", "o = 1 -> i;", "t", "f"},
		{"", "o = 0 -> pre i;", "t 9", "f 3"},
		{"", "o = 0 fby i;", "t 9", "f 3"},
		{"", "o = 5 fby i + 1;", "t 9", "f 4"},
		{"", "o = i fby 5;", "t 9", "f 5"},
		// one each, also of what is alike
		{"", "o = 0 -> pre i + pre i;", "t 9 9", "f 3 3"},
		{"", "o = 0 -> pre i - pre (i + 1) * pre (i + 2);", "t 9 9 9", "f 3 4 5"},
		// the innermost first, then the left
		{"", "o = 0 -> pre (7 -> pre i);", "t 9 9", "f 3 7"},
		{"", "o = 0 fby (7 fby i);", "t 9 9", "f 3 7"},
		{"", "o = (1 fby 2) fby (3 fby 4);", "t 9 9 9", "f 2 4 3"},
		{"", "o = (5 fby i) + (6 fby -i);", "t 9 9", "f 3 -3"},
		{"", "o = if (true fby b) then (5 fby i) else (6 fby o);", "t t 9 9", "f f 3 5"},
		{"", "o = 0 -> if pre b then pre i else pre o;", "t t 9 9", "f f 3 0"},
		{"", "o = (0 -> pre o) + (1 -> pre (i * 2 -> pre i));", "t 9 9 9", "f 1 3 6"},
		{"", "o = 1 + (0 -> pre (8 -> pre (7 -> pre (i + 1))));", "t 9 9 9", "f 4 7 8"},
		// flows in the order in which they stand, not in which they are needed; then asserts; then checks
		{"x: int; y: int", "o = x + (1 fby o); x = y + (2 fby x); y = 3 fby y;", "t 9 9 9", "f 6 5 3"},
		{"", "check true fby b; assert b fby i = 3; o = 0 fby i; check b fby i < 3; assert true -> pre (i > 3);", "t 9 t t t t", "f 3 t f f f"},
		{"x: bool", "assert true -> pre x; o = 0 -> pre o + 1; x = i = 3;", "t 9 t", "f 0 t"},
		// what is late
		{"x: int; y: int", "x = pre i; y = x + pre (i + 1); o = 0 -> y;", "t 9 9", "f 3 4"},
		{"x: bool", "x = not pre b; o = 1;", "t t", "f f"},
		// calls
		{"", "o = last(i) + last(last(i + 1));", "t 9 9 9 t t t", "f 3 4 0 t t t"},
	} {
		m := machine(t, made(t, c.own, c.s), true, 9)
		for _, v := range m.State() {
			if v.Kind == api.Bool && v.N > 1 {
				t.Fatal(v)
			}
		}
		if got := told(m.State()); got != c.start {
			t.Errorf("%s: %q, want %q", c.s, got, c.start)
		}
		if _, err := m.Tick(values(whole(3), bit(0))); err != nil {
			t.Error(c.s, err)
		}
		if got := told(m.State()); got != c.behind {
			t.Errorf("%s: then %q, want %q", c.s, got, c.behind)
		}
	}
}

// TestP70Nil: memories are NIL at the beginning, of their types.
func TestP70Nil(t *testing.T) {
	p := made(t, "", "o = 0 -> if pre b then pre i else pre o;")
	for _, n := range []int{-128, -1, 0, 127} {
		wantState(t, machine(t, p, true, n), "t t "+strconv.Itoa(n)+" "+strconv.Itoa(n))
		wantState(t, machine(t, p, false, n), "t f "+strconv.Itoa(n)+" "+strconv.Itoa(n))
	}
	// Of programs of nothing there is a state, too.
	m := machine(t, flat.Program{}, true, 1)
	wantState(t, m, "t")
	for range 2 {
		if k, err := m.Tick(nil); !k.Assert || k.Trap || len(k.Out)+len(k.Checks) > 0 || err != nil {
			t.Errorf("%v, %v", k, err)
		}
		wantState(t, m, "f")
	}
}

func TestP70Ticks(t *testing.T) {
	m := machine(t, made(t, "", "o = i -> pre o + 60 / i; assert i < 9; check true -> pre b; check o < 30;"), false, 4)
	wantState(t, m, "t 4 f")
	wantTick(t, m, 3, 1, "3")
	wantState(t, m, "f 3 t")
	wantTick(t, m, 6, 0, "13")
	wantState(t, m, "f 13 f")
	wantTick(t, m, 10, 1, "19?!")
	wantState(t, m, "f 19 t")
	wantTick(t, m, 2, 1, "49!")
	wantState(t, m, "f 49 t")
	wantTick(t, m, -1, 0, "-11")
	wantState(t, m, "f -11 f")
}

// TestP70Trap: it leaves the state, and nothing changes any more, whatever is handed in.
func TestP70Trap(t *testing.T) {
	i, b := whole(3), bit(1)
	for _, before := range []int{0, 1, 2} {
		m := machine(t, made(t, "", "o = 1 -> pre o + 60 / i; check true -> pre b;"), true, 7)
		want := []string{"t 7 t", "f 1 f", "f 21 f"}[before]
		for n := range before {
			wantTick(t, m, 3, 0, []string{"1", "21!"}[n])
		}
		wantState(t, m, want)
		wantTick(t, m, 0, 1, "trap")
		wantState(t, m, want)
		for _, in := range [][]api.Value{{i, b}, {whole(0), b}, nil, {}, {i}, {b, i}, {i, bit(7)}, {whole(999), b}, {i, b, b}} {
			k, err := m.Tick(in)
			if !k.Trap || k.Assert || len(k.Out)+len(k.Checks) > 0 || err != nil {
				t.Errorf("%v: %v, %v", in, k, err)
			}
			wantState(t, m, want)
		}
	}
}

// TestP70FirstTrap: what is late does not trap where no instant has been; parts that are not late do.
func TestP70FirstTrap(t *testing.T) {
	m := machine(t, made(t, "x: int", "x = 8 / pre i; o = 1 -> x;"), false, 0)
	wantTick(t, m, 0, 0, "1")
	wantTick(t, m, 2, 0, "trap")
	wantState(t, m, "f 0")
	m = machine(t, made(t, "x: int", "x = 8 / pre i; o = 1 -> x;"), false, 0)
	wantTick(t, m, 4, 0, "1")
	wantTick(t, m, 2, 0, "2")
	m = machine(t, made(t, "x: int", "x = pre i + 8 / i; o = 1;"), false, 0)
	wantTick(t, m, 0, 0, "trap")
	wantState(t, m, "t 0")
}

// TestP70Type: wrong inputs are told by a bare error, and nothing is done.
func TestP70Type(t *testing.T) {
	i, b := whole(1), bit(1)
	m := machine(t, made(t, "", "o = 1 -> pre o + 60 / i; check true -> pre b;"), true, 7)
	for _, want := range []struct{ state, tick string }{{"t 7 t", "1"}, {"f 1 f", "21!"}, {"f 21 f", "41!"}} {
		for _, wrong := range [][]api.Value{
			nil, {}, {i}, {i, b, b}, {b, i}, {i, i}, {b, b}, {{}, {}}, {whole(0)},
			{i, bit(2)}, {i, bit(-1)}, {i, bit(math.MinInt)}, {whole(128), b}, {whole(-129), b}, {whole(math.MaxInt), b},
			{i, {Kind: 3, N: 1}}, {{Kind: 0, N: 1}, b}, make([]api.Value, 5000),
		} {
			if k, err := m.Tick(wrong); err != api.ErrType || !reflect.DeepEqual(k, flow.Tick{}) {
				t.Errorf("%v: %v, %v", wrong, k, err)
			}
			wantState(t, m, want.state)
		}
		wantTick(t, m, 3, 0, want.tick)
	}
}

// TestP70Errors: those of flow.Run of no instants.
func TestP70Errors(t *testing.T) {
	tooBig := flat.Program{L: make([]flat.Flow, api.MaxFlat+1)}
	for i := range tooBig.L {
		tooBig.L[i] = flat.Flow{Name: strconv.Itoa(i), Kind: api.Bool, E: tree.Expr{Op: "true"}}
	}
	right := made(t, "", "o = i;")
	for _, p := range []flat.Program{
		right, tooBig,
		{Out: []string{"x"}},
		{L: []flat.Flow{{Name: "x", Kind: 3}}},
		{L: []flat.Flow{{Name: "x", Kind: api.Int, E: tree.Expr{Op: "true"}}}},
		{L: []flat.Flow{{Name: "x", Kind: api.Int, E: tree.Expr{Op: "pre"}}}},
		made(t, "x: int", "o = i; x = x + 1;"),
		made(t, "", "o = pre i;"),
		made(t, "x: int", "o = 1; x = pre pre i;"),
		made(t, "", "o = 1; check pre b;"),
		made(t, "", "o = 1; assert 1 / pre i = 1;"),
	} {
		for _, n := range []int{0, -128, 127, -129, 128, math.MaxInt, math.MinInt} {
			_, want := flow.Run(p, nil, true, n)
			m, err := New(p, true, n)
			if !reflect.DeepEqual(err, want) || (m == nil) != (want != nil) {
				t.Errorf("%v, %d: %v, %v, want %v", p, n, m, err, want)
			}
		}
	}
	for _, n := range []int{128, -129} {
		if m, err := New(right, false, n); m != nil || err != api.ErrBound {
			t.Errorf("%d: %v, %v", n, m, err)
		}
	}
	var f *api.Fault
	if m, err := New(made(t, "x: int", "o = i; x = x + 1;"), false, 128); m != nil || !errors.As(err, &f) || *f != (api.Fault{At: 1, Err: api.ErrCycle}) {
		t.Errorf("%v, %v", m, err)
	}
}

func TestP71Load(t *testing.T) {
	m := machine(t, made(t, "", "o = 1 -> if pre b then pre i else 60 / i; check true fby o > 5;"), false, 0)
	load := func(l ...api.Value) {
		t.Helper()
		if err := m.Load(l); err != nil {
			t.Errorf("%v: %v", l, err)
		}
		wantState(t, m, told(l))
	}
	load(bit(0), bit(1), whole(-128), bit(0))
	wantTick(t, m, 3, 1, "-128!")
	wantState(t, m, "f t 3 f")
	load(bit(0), bit(0), whole(127), bit(1))
	wantTick(t, m, 3, 0, "20")
	wantState(t, m, "f f 3 t")
	// Back to where no instant has been, whatever memories are.
	load(bit(1), bit(1), whole(5), bit(0))
	wantTick(t, m, 3, 1, "1")
	wantState(t, m, "f t 3 f")
	// Its own state changes nothing.
	load(m.State()...)
	wantTick(t, m, 4, 1, "3!")
}

// TestP71Forgets: a trap is forgotten, also by the state that is there; but not by one that is none.
func TestP71Forgets(t *testing.T) {
	m := machine(t, made(t, "", "o = 1 -> pre i + 60 / i;"), false, 0)
	wantTick(t, m, 2, 0, "1")
	wantTick(t, m, 0, 0, "trap")
	for _, l := range [][]api.Value{nil, {bit(0)}, {bit(0), bit(1)}, {bit(3), whole(1)}} {
		if err := m.Load(l); err != api.ErrShape {
			t.Error(err)
		}
		wantTick(t, m, 2, 0, "trap")
	}
	if err := m.Load(m.State()); err != nil {
		t.Error(err)
	}
	wantState(t, m, "f 2")
	wantTick(t, m, 3, 0, "22")
	wantTick(t, m, 0, 0, "trap")
	if err := m.Load(values(bit(1), whole(9))); err != nil {
		t.Error(err)
	}
	wantTick(t, m, 0, 0, "trap")
	wantState(t, m, "t 9")
}

func TestP71Shape(t *testing.T) {
	m := machine(t, made(t, "", "o = 1 -> if pre b then pre i else i;"), true, 7)
	i, b, f := whole(1), bit(1), bit(0)
	for _, want := range []string{"t t 7", "f f 3"} {
		for _, wrong := range [][]api.Value{
			nil, {}, {f}, {f, b}, {f, b, i, i}, {f, b, i, b}, {b, i}, make([]api.Value, 3), make([]api.Value, 5000),
			{i, b, i}, {f, i, b}, {f, i, i}, {f, b, b}, {whole(0), b, i},
			{bit(2), b, i}, {bit(-1), b, i}, {bit(math.MaxInt), b, i}, {f, bit(2), i}, {f, bit(-1), i}, {f, b, whole(128)}, {f, b, whole(-129)}, {f, b, whole(math.MinInt)},
			{{Kind: 0}, b, i}, {f, {Kind: 3}, i}, {f, b, {Kind: -1}},
		} {
			if err := m.Load(wrong); err != api.ErrShape {
				t.Errorf("%v: %v", wrong, err)
			}
			wantState(t, m, want)
		}
		wantTick(t, m, 3, 0, map[string]string{"t t 7": "1", "f f 3": "3"}[want])
	}
}

// TestP4Memory: what is handed over is only read, and not kept; what is answered is nobody else's.
func TestP4Memory(t *testing.T) {
	p := made(t, "x: int", "o = 1 -> pre i + x; x = 2 fby o; assert b; check true -> pre b; check i < 9;")
	before, err := flat.Text(p)
	if err != nil {
		t.Fatal(err)
	}
	m := machine(t, p, false, 0)
	if after, err := flat.Text(p); after != before || err != nil {
		t.Errorf("%s, %v", after, err)
	}
	// The program may become another one.
	p.In[0].Kind, p.In[1].Name, p.Out[0] = api.Bool, "i", "x"
	for i := range p.L {
		p.L[i].Name, p.L[i].Kind = "z", api.Bool
		p.L[i].E.L[0], p.L[i].E.Op = tree.Expr{Op: "true"}, "neg"
	}
	p.Asserts[0], p.Checks[0].L[1].L[0].S, p.Checks[1].Op = tree.Expr{Op: "false"}, "z", ">"
	// What lies behind lengths is nobody's.
	in := values(whole(3), bit(1), whole(99))
	load := values(bit(0), whole(5), whole(6), bit(1), whole(99))
	k, err := m.Tick(in[:2])
	if told(k.Out) != "1" || !k.Assert || !slices.Equal(k.Checks, []bool{true, true}) || err != nil {
		t.Errorf("%v, %v", k, err)
	}
	in[0] = whole(8)
	k.Out[0], k.Checks[0] = whole(7), false
	_, _ = append(k.Out, whole(6)), append(k.Checks, false)
	wantState(t, m, "f 3 1 t")
	state := m.State()
	state[0], state[1] = bit(1), whole(44)
	_ = append(state, whole(6))
	wantState(t, m, "f 3 1 t")
	wantTick(t, m, 2, 1, "4")
	if err := m.Load(load[:4]); err != nil {
		t.Error(err)
	}
	if !slices.Equal(in, values(whole(8), bit(1), whole(99))) || !slices.Equal(load, values(bit(0), whole(5), whole(6), bit(1), whole(99))) {
		t.Errorf("%v, %v", in, load)
	}
	load[1], load[4] = whole(9), bit(0)
	wantState(t, m, "f 5 6 t")
	wantTick(t, m, 2, 1, "11")
}

// TestP4Apart: two machines of one program are nothing to each other.
func TestP4Apart(t *testing.T) {
	p := made(t, "", "o = i -> pre o + 60 / i;")
	a, b := machine(t, p, false, 0), machine(t, p, false, 0)
	wantTick(t, a, 3, 0, "3")
	wantState(t, b, "t 0")
	wantTick(t, a, 0, 0, "trap")
	wantTick(t, b, 5, 0, "5")
	wantTick(t, b, 6, 0, "15")
	wantState(t, a, "f 3")
}

// TestP70Long: there is no last instant.
func TestP70Long(t *testing.T) {
	m := machine(t, made(t, "", "o = 1 -> pre o + 1;"), false, 0)
	for n := range 10 * api.MaxTicks {
		wantTick(t, m, 0, 0, strconv.Itoa(int(int8(n+1))))
	}
}

// TestP1Great: programs as big and as deep as there are.
func TestP1Great(t *testing.T) {
	i := tree.Expr{Op: "name", S: "i"}
	op := func(op string, l ...tree.Expr) tree.Expr { return tree.Expr{Op: op, L: l} }
	deep, past := i, i
	for range api.MaxTerms - 1 {
		deep = op("neg", deep)
	}
	for range (api.MaxTerms - 1) / 2 {
		past = op("fby", tree.Expr{Op: "int", N: 7}, past)
	}
	for _, c := range []struct {
		e              tree.Expr
		want, memories int
	}{{deep, -99, 0}, {past, 7, (api.MaxTerms - 1) / 2}} {
		p := flat.Program{In: []tree.Var{{Name: "i", Kind: api.Int}}, Out: []string{"o"}, L: []flat.Flow{{Name: "o", Kind: api.Int, E: c.e}}}
		if err := order.Check(p); err != nil {
			t.Fatal(err)
		}
		m := machine(t, p, false, 0)
		for range 100 {
			if k, err := m.Tick(values(whole(99))); err != nil || !slices.Equal(k.Out, values(whole(c.want))) {
				t.Fatalf("%v, %v", k, err)
			}
		}
		if l := m.State(); len(l) != 1+c.memories {
			t.Errorf("%d values", len(l))
		}
		if err := m.Load(m.State()); err != nil {
			t.Error(err)
		}
	}
}
