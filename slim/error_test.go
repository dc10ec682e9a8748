package slim

import (
	"math/rand"
	"reflect"
	"strconv"
	"testing"

	"lustrum/api"
	"lustrum/flat"
	"lustrum/order"
	"lustrum/plain"
	"lustrum/sample"
	"lustrum/tree"
)

// refused holds all three to an error, with nothing beside it.
func refused(t testing.TB, p flat.Program, at int, want error) {
	t.Helper()
	for word, f := range hows() {
		x, err := f(p)
		told(t, err, at, want)
		if !reflect.DeepEqual(x, flat.Program{}) {
			t.Errorf("%s: %v with %v", word, err, x)
		}
	}
}

// bools: a program of so many flows, each of so many parts.
func bools(flows, parts int) flat.Program {
	var p flat.Program
	for i := range flows {
		e := op("true")
		for range parts - 1 {
			e = op("not", e)
		}
		p.L = append(p.L, flat.Flow{Name: "x" + strconv.Itoa(i), Kind: api.Bool, E: e})
	}
	return p
}

func TestP180Shape(t *testing.T) {
	right := flat.Flow{Name: "x", Kind: api.Int, E: number(1)}
	for _, p := range []flat.Program{
		{Out: []string{"x"}},
		{In: []tree.Var{{Name: "x", Kind: api.Int}}, Out: []string{"x"}},
		{In: make([]tree.Var, 1)},
		{In: []tree.Var{{Name: "x", Kind: api.Int}, {Name: "x", Kind: api.Int}}},
		{In: []tree.Var{{Name: "x", Kind: api.Int}}, L: []flat.Flow{right}},
		{L: []flat.Flow{right, right}},
		{L: []flat.Flow{{Name: "x", Kind: 3, E: number(1)}}},
		{L: []flat.Flow{{Kind: api.Int, E: number(1)}}},
		{L: []flat.Flow{{Name: "x", Kind: api.Int}}},
		{L: []flat.Flow{{Name: "x", Kind: api.Int, E: number(128)}}},
		{L: []flat.Flow{{Name: "x", Kind: api.Int, E: number(-1)}}},
		{L: []flat.Flow{{Name: "x", Kind: api.Int, E: op("+", number(1))}}},
		{L: []flat.Flow{{Name: "x", Kind: api.Int, E: op("call", number(1))}}},
		{Checks: make([]tree.Expr, 1)},
		{Checks: []tree.Expr{name("x")}},
		{Asserts: []tree.Expr{op("if", op("true"), op("true"), name("x"))}},
		{Asserts: []tree.Expr{{Op: "true", S: "x"}}},
	} {
		refused(t, p, -1, api.ErrShape)
	}
}

func TestP180Bound(t *testing.T) {
	refused(t, bools(api.MaxFlat+1, 1), -1, api.ErrBound)
	refused(t, bools(1, api.MaxTerms+1), -1, api.ErrBound)
	refused(t, bools(api.MaxFlat, api.MaxTerms/api.MaxFlat+1), -1, api.ErrBound)
	p := flat.Program{In: append(sample.Divisions(0).In, tree.Var{Name: "more", Kind: api.Bool})}
	refused(t, p, -1, api.ErrBound)
	for word, f := range hows() {
		for _, p := range []flat.Program{bools(api.MaxFlat, api.MaxTerms/api.MaxFlat), bools(1, api.MaxTerms), sample.Divisions(0)} {
			if _, err := f(p); err != nil {
				t.Errorf("%s: %v", word, err)
			}
		}
	}
}

func TestP180Type(t *testing.T) {
	for _, p := range []flat.Program{
		{Checks: []tree.Expr{number(1)}},
		{Asserts: []tree.Expr{op("if", op("true"), number(1), number(2))}},
		{L: []flat.Flow{{Name: "x", Kind: api.Int, E: op("true")}}},
		{L: []flat.Flow{{Name: "x", Kind: api.Int, E: op("if", op("true"), number(1), op("true"))}}},
		{L: []flat.Flow{{Name: "x", Kind: api.Int, E: op("+", number(1), op("true"))}}},
		{L: []flat.Flow{{Name: "x", Kind: api.Bool, E: op("=", number(1), op("true"))}}},
		{L: []flat.Flow{{Name: "x", Kind: api.Int, E: op("if", number(1), number(1), number(2))}}},
	} {
		refused(t, p, -1, api.ErrType)
	}
}

// TestP181Cycle: also where what is made slim would have none any more.
func TestP181Cycle(t *testing.T) {
	for s, at := range map[string]int{
		"a i\nc c + 1":                        1,
		"a i\nc d\nd c\nout a":                1,
		"a i\nc if true then i else c\nout a": 1,
		"a c\nc d\nd c * 0 + a":               0,
		"p p\nq q":                            0,
		"a i\nc i\nd e\ne c + d / 2":          2,
	} {
		refused(t, flows(t, s), at, api.ErrCycle)
	}
}

func TestP181First(t *testing.T) {
	for s, at := range map[string]int{
		"a pre i\nout a":                          0,
		"a i\nc pre a\nd c\nout a\nout d":         2,
		"a i\nc pre pre a\nout a":                 1,
		"a pre c\nc pre i\nout c":                 0,
		"a i\nc if true then i else pre i\nout c": 1,
		"a pre i\ncheck a = i":                    -1,
		"a pre i\nassert true => (a = i)":         -1,
		"a i\ncheck if true then b else pre b":    -1,
		"a i\nassert pre true":                    -1,
		"a pre i\nc pre a\nout a\ncheck pre b":    0,
	} {
		refused(t, flows(t, s), at, api.ErrFirst)
	}
}

// TestP1Spoilt: of programs that may be wrong, order.Check's errors.
func TestP1Spoilt(t *testing.T) {
	r := rand.New(rand.NewSource(1))
	count := map[int]int{}
	for range 5000 {
		p := drawnProgram(r, drawn(r, 300))
		if r.Intn(4) > 0 {
			sample.Spoil(drawn(r, 20), &p)
		}
		want, wantAt := plain.Code(order.Check(p))
		count[want]++
		for word, f := range hows() {
			x, err := f(p)
			if code, at := plain.Code(err); code != want || at != wantAt {
				t.Fatalf("%s: %d at %d, want %d at %d, of %v", word, code, at, want, wantAt, p)
			}
			if err != nil && !reflect.DeepEqual(x, flat.Program{}) {
				t.Fatalf("%s: %v with %v", word, err, x)
			}
		}
	}
	// fine, shape, type, cycle, first
	for code, least := range map[int]int{0: 1000, 3: 500, 5: 100, 6: 50, 7: 100} {
		if count[code] < least {
			t.Errorf("only %v", count)
		}
	}
}
