package flat

import (
	"strings"
	"testing"

	"lustrum/api"
	"lustrum/tree"
)

func wantText(t *testing.T, p Program, lines ...string) {
	t.Helper()
	want := ""
	for _, s := range lines {
		want += s + "\n"
	}
	if s, err := Text(p); s != want || err != nil {
		t.Errorf("%q, %v, want %q", s, err, want)
	}
}

func TestP43Lines(t *testing.T) {
	wantText(t, Program{})
	wantText(t, sound(), "in i bool", "in j int", "x bool = not i", "y int = j + 1", "out y", "out x", "assert i", "check i => (y < 3)")
	wantText(t, Program{Asserts: []tree.Expr{op("true"), op("false")}, Checks: []tree.Expr{op("false"), op("true")}},
		"assert true", "assert false", "check false", "check true")
	wantText(t, Program{L: []Flow{{"b", api.Bool, name("b")}, {"a", api.Int, num(127)}}}, "b bool = b", "a int = 127")
}

func TestP43NamesAsTheyAre(t *testing.T) {
	for _, s := range []string{"0.x", "12.abc_d", "a b", "node", "true", "-", "\n", "é", "\xff\x00", strings.Repeat("long", 5000)} {
		wantText(t, Program{In: []tree.Var{{Name: s, Kind: api.Int}}, L: []Flow{{"x", api.Int, op("-", op("neg", name(s)), op("pre", name(s)))}}},
			"in "+s+" int", "x int = -"+s+" - pre "+s)
		wantText(t, Program{L: []Flow{{s, api.Bool, op("not", name(s))}}, Out: []string{s}, Checks: []tree.Expr{name(s)}},
			s+" bool = not "+s, "out "+s, "check "+s)
	}
}

func TestP43Terms(t *testing.T) {
	x, y := name("0.x"), name("1.y")
	for want, e := range map[string]tree.Expr{
		"0.x - (1.y - 1)":               op("-", x, op("-", y, num(1))),
		"0.x - 1.y - 1":                 op("-", op("-", x, y), num(1)),
		"(0.x + 1) * 1.y":               op("*", op("+", x, num(1)), y),
		"-(-0.x)":                       op("neg", op("neg", x)),
		"pre -0.x":                      op("pre", op("neg", x)),
		"-pre 0.x":                      op("neg", op("pre", x)),
		"-(0.x mod 1.y)":                op("neg", op("mod", x, y)),
		"0 -> pre 0.x + 1":              op("->", num(0), op("+", op("pre", x), num(1))),
		"(0 -> 0.x) fby 1.y":            op("fby", op("->", num(0), x), y),
		"if 0.x < 1 then 0.x else 1.y":  op("if", op("<", x, num(1)), x, y),
		"(if true then 1 else 2) + 0.x": op("+", op("if", op("true"), num(1), num(2)), x),
	} {
		wantText(t, Program{L: []Flow{{"0.x", api.Int, e}, {"1.y", api.Int, num(0)}}}, "0.x int = "+want, "1.y int = 0")
	}
}

// TestP43Deep: terms that no program could have are written, too: nothing but Check's errors is told.
func TestP43Deep(t *testing.T) {
	deep, text := name("x"), "x"
	for range 500 {
		deep, text = op("pre", op("neg", op("-", num(1), op("+", num(2), deep)))), "pre -(1 - (2 + "+text+"))"
	}
	wantText(t, Program{L: []Flow{{"x", api.Int, deep}}}, "x int = "+text)
	signs, text := name("x"), "x"
	for range 39 {
		signs, text = op("neg", signs), "-("+text+")"
	}
	wantText(t, Program{L: []Flow{{"x", api.Int, signs}}}, "x int = "+strings.Replace(text, "(x)", "x", 1))
}
