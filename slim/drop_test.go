package slim

import (
	"slices"
	"strconv"
	"strings"
	"testing"

	"lustrum/api"
	"lustrum/flat"
	"lustrum/tree"
)

// flows of a program of inputs i, j and b, written `NAME TERM`, each on a line, as flat.Text tells them: of a name from p on they are of bools. Behind them stand outputs, asserts and checks.
func flows(t testing.TB, s string) flat.Program {
	t.Helper()
	p := flat.Program{In: []tree.Var{{Name: "i", Kind: api.Int}, {Name: "b", Kind: api.Bool}, {Name: "j", Kind: api.Int}}}
	for line := range strings.SplitSeq(strings.Trim(s, "\n"), "\n") {
		word, rest, _ := strings.Cut(strings.TrimSpace(line), " ")
		switch word {
		case "out":
			p.Out = append(p.Out, rest)
		case "assert":
			p.Asserts = append(p.Asserts, term(t, rest))
		case "check":
			p.Checks = append(p.Checks, term(t, rest))
		default:
			kind := api.Int
			if word >= "p" {
				kind = api.Bool
			}
			p.L = append(p.L, flat.Flow{Name: word, Kind: kind, E: term(t, rest)})
		}
	}
	return p
}

func term(t testing.TB, s string) tree.Expr {
	t.Helper()
	l, err := tree.Read("node n() returns (z: int); let z = " + s + "; tel")
	if err != nil {
		t.Fatal(s, err)
	}
	return l[0].L[0].E
}

// drops holds Drop to the flows that it leaves, by their names.
func drops(t testing.TB, s string, names ...string) {
	t.Helper()
	p := flows(t, s)
	x := p
	x.L = slices.DeleteFunc(slices.Clone(p.L), func(f flat.Flow) bool { return !slices.Contains(names, f.Name) })
	want(t, Drop, p, x)
}

func TestP181Drop(t *testing.T) {
	drops(t, "a i\nc j\nd 1")
	drops(t, "a i\nc j\nd 1\nout c", "c")
	drops(t, "a i\nc j\nd 1\nout c\nout a", "a", "c")
	// what needed ones name, and what these name
	drops(t, "a c + 1\nc d\nd e\ne i\nf a\nout a", "a", "c", "d", "e")
	drops(t, "a if q then c else 1\nc -d\nd 2\ne d\nq r\nr b\ns r\nout a", "a", "c", "d", "q", "r")
	// below a pre, behind an arrow or a fby, or not
	drops(t, "a 0 -> pre c\nc i\nd j\nout a", "a", "c")
	drops(t, "a 0 fby c\nc i\nd j\nout a", "a", "c")
	drops(t, "a c fby 0\nc i\nd j\nout a", "a", "c")
	drops(t, "a 0 -> pre (c + 1)\nc 1 -> d\nd pre e\ne 2\nf 1 -> d\nout a", "a", "c", "d", "e")
}

// TestP181DropLate: flows that are late go, and stay, as others do.
func TestP181DropLate(t *testing.T) {
	drops(t, "a 0 -> c\nc pre i\nd pre j\nout a", "a", "c")
	drops(t, "a 0 -> 1\nc pre i\nd pre j\nout a", "a")
}

// TestP181DropSelf: that a flow names itself, or several each other, does not make them needed.
func TestP181DropSelf(t *testing.T) {
	drops(t, "a 0 -> pre a + 1\nc 0 -> pre c + 1\nout a", "a")
	drops(t, "a 0 -> pre c\nc 0 -> pre d\nd 0 -> pre a\ne a + c\nf i\nout f", "f")
	drops(t, "a 0 -> pre c\nc 0 -> pre d\nd 0 -> pre a\ne a + c\nf i\nout d", "a", "c", "d")
	drops(t, "a 0 -> pre c\nc 0 -> pre d\nd 0 -> pre a\ne a / c\nf i", "a", "c", "d", "e")
}

func TestP181DropTraps(t *testing.T) {
	drops(t, "a i / j\nc j mod i\nd j * i\ne 4 / 2\nf 5 mod 3", "a", "c", "e", "f")
	drops(t, "a 1 + c / -d\nc i\nd 0 fby e\ne j\nf j", "a", "c", "d", "e")
	drops(t, "a c\nc d\nd pre e\ne 1 + 2 * (j mod 2)\nf e\nout f", "e", "f")
	drops(t, "a pre (1 / c)\nc i\np 1 / c = 2\nq p\nr true -> pre (1 mod i) = 2", "a", "c", "p", "r")
	drops(t, "a if b then c else (d fby e / 2)\nc i\nd j\ne i + j\nf e", "a", "c", "d", "e")
}

func TestP181DropAsked(t *testing.T) {
	drops(t, "p b\nq not b\nr b\ns true\nassert p\ncheck q", "p", "q")
	drops(t, "p b\nq p\nr q\ns true\nassert true -> pre (r = b)", "p", "q", "r")
	drops(t, "a i\nc j\nd a\ncheck b\ncheck 0 < (1 fby d)\nassert i / j = 2", "a", "d")
	drops(t, "a i\nc j\nd a\nout c\ncheck a = c\nassert true", "a", "c")
	drops(t, "a i\nassert b\ncheck j / i = 2")
}

// TestP181DropMany: as many flows as there may be, one of which needs all, or none.
func TestP181DropMany(t *testing.T) {
	var p flat.Program
	for i := range api.MaxFlat {
		p.L = append(p.L, flat.Flow{Name: "x" + strconv.Itoa(i), Kind: api.Int, E: number(1)})
		if i > 0 {
			p.L[i].E = op("fby", number(i%100), name("x"+strconv.Itoa(i-1)))
		}
	}
	want(t, Drop, p, flat.Program{})
	p.Out = []string{"x399"}
	want(t, Drop, p, p)
	p.Out = []string{"x0"}
	want(t, Drop, p, flat.Program{L: p.L[:1], Out: p.Out})
	slices.Reverse(p.L)
	want(t, Drop, p, flat.Program{L: p.L[399:], Out: p.Out})
	p.L[100].E = op("/", name("x298"), number(2))
	want(t, Drop, p, flat.Program{L: p.L[100:], Out: p.Out})
}
