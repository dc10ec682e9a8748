package slim

import (
	"slices"
	"strconv"
	"testing"

	"lustrum/api"
	"lustrum/flat"
	"lustrum/sample"
	"lustrum/tree"
)

// merges holds Same to what it makes.
func merges(t testing.TB, s, into string) {
	t.Helper()
	want(t, Same, flows(t, s), flows(t, into))
}

// stays holds Same to leave a program as it is.
func stays(t testing.TB, s string) {
	t.Helper()
	merges(t, s, s)
}

func TestP181Same(t *testing.T) {
	merges(t, "a i + 1\nc i + 1\nd c\nout d", "a i + 1\nd a\nout d")
	merges(t, "a i + 1\nc j\nd i + 1\ne d + c\nout e", "a i + 1\nc j\ne a + c\nout e")
	// of several
	merges(t, "a 1\nc 1\nd 1\ne 1\nf a + c - d * e", "a 1\nf a + a - a * a")
	merges(t, "p true\na 1\nq true\nc 1\nr a = c\ns p = q", "p true\na 1\nr a = a\ns p = p")
	// in all terms, also those ahead, those of asserts and checks, and below a pre
	merges(t, "d 0 -> pre c\na i\nc i\ne c fby c\np c = 1\nassert c = 2\ncheck 3 = (4 fby c)\nassert p\nout d",
		"d 0 -> pre a\na i\ne a fby a\np a = 1\nassert a = 2\ncheck 3 = (4 fby a)\nassert p\nout d")
	// late ones
	merges(t, "a pre i\nc pre i\nd 0 -> a + c\nout d", "a pre i\nd 0 -> a + a\nout d")
	// what is only another one's name
	merges(t, "a i\nc i\nd c\ne a\nf d", "a i\nd a\nf d")
}

// TestP181SameParts: alike to the last part.
func TestP181SameParts(t *testing.T) {
	stays(t, "a i + 1\nc i + 2\nd i - 1\ne 1 + i\nf j + 1\ng (i + 1) + 0\nh i")
	stays(t, "a 1\nc -1\nd 0\ne -0\nf 1 + 0")
	stays(t, "a -(i * 2 + j)\nc -(i * 3 + j)\nd -(i * 2 + i)\ne -(i * 2 - j)\nf -(2 * i + j)")
	stays(t, "a 0 -> pre i\nc 0 fby i\nd 1 -> pre i\ne 0 -> i\nf 0 -> pre j")
	stays(t, "a if b then i else j\nc if b then j else i\nd if not b then i else j")
	stays(t, "p b\nq not b\nr b and b\ns b or b\nt true\nu false\nv b = b\nw b xor b")
	merges(t, "a -(i * 2 + j)\nc -(i * 2 + j)\np not (b and i < 3)\nq not (b and i < 3)\nr q = (a = c)", "a -(i * 2 + j)\np not (b and i < 3)\nr p = (a = a)")
	// alike in all but the names of themselves
	stays(t, "a 0 -> pre a + 1\nc 0 -> pre c + 1\nout a")
	merges(t, "a 0 -> pre a + 1\nc 0 -> pre a + 1\nd c", "a 0 -> pre a + 1\nd a")
	merges(t, "a 0 -> pre c + 1\nc 0 -> pre c + 1\nd c", "a 0 -> pre a + 1\nd a")
	stays(t, "a 0 -> pre c + 1\nc 0 -> pre a + 1")
}

// TestP181SameOuts: what is one of Out stays, but others may become it.
func TestP181SameOuts(t *testing.T) {
	stays(t, "a i\nc i\nout a\nout c")
	stays(t, "a i\nc i\nd c\ne a\nout c")
	merges(t, "a i\nc i\nd c\ne i\nf d + e\nout c\nout a", "a i\nc i\nd c\nf d + a\nout c\nout a")
	merges(t, "a i\nc i\nd c\nout a", "a i\nd a\nout a")
	merges(t, "c i\na i\nd i\ne i\nf e + d\nout f\nout a", "c i\na i\nf c + c\nout f\nout a")
}

// TestP181SameTraps: what divides stays.
func TestP181SameTraps(t *testing.T) {
	stays(t, "a i / j\nc i / j\nd 4 / 2\ne 4 / 2\nf 1 mod i\ng 1 mod i\nh 1 + -(2 * (i mod 2))\nk 1 + -(2 * (i mod 2))\np 1 / i = 2\nq 1 / i = 2")
	// but its names are changed
	merges(t, "a i\nc i\nd a / 2\ne c / 2\nf e", "a i\nd a / 2\ne a / 2\nf e")
}

// TestP181SameOneByOne: names that have been changed count, in both terms; what has been gone through stays.
func TestP181SameOneByOne(t *testing.T) {
	merges(t, "a i\nc i\nd a + 1\ne c + 1\nf d * 2\ng e * 2\nh f - g\nout h", "a i\nd a + 1\nf d * 2\nh f - f\nout h")
	// the one ahead has the new name, too
	merges(t, "d 0 -> pre c\na i\nc i\ne 0 -> pre a\nf d + e\nout f", "d 0 -> pre a\na i\nf d + d\nout f")
	merges(t, "d 0 -> pre c\na i\nc i\ne 0 -> pre c\nf d + e\nout f", "d 0 -> pre a\na i\nf d + d\nout f")
	// two that become alike behind both of them stay; a third one becomes the first
	merges(t, "d 0 -> pre c\ne 0 -> pre a\na i\nc i\nf 0 -> pre c\nout f", "d 0 -> pre a\ne 0 -> pre a\na i\nf 0 -> pre a\nout f")
	merges(t, "d 0 -> pre c\ne 0 -> pre a\na i\nc i\nf 0 -> pre c\ng e + f", "d 0 -> pre a\ne 0 -> pre a\na i\ng e + d")
	// what has gone is none ahead any more
	merges(t, "a c\nd i\nc i\ne c\nf e", "a d\nd i\nf a")
	merges(t, "a i\nc i\nd 0 -> pre d + c\ne 0 -> pre d + a\nf e", "a i\nd 0 -> pre d + a\nf d")
	// twice is more
	p := flows(t, "d 0 -> pre c\ne 0 -> pre a\na i\nc i\nf e\nout f")
	want(t, Same, slimmed(t, Same, p), flows(t, "d 0 -> pre a\na i\nf d\nout f"))
}

// TestP181SameMany: as many flows as there may be, of as many parts.
func TestP181SameMany(t *testing.T) {
	all := func(e func(i int) tree.Expr) flat.Program {
		p := flat.Program{In: []tree.Var{{Name: "i", Kind: api.Int}}}
		for i := range api.MaxFlat {
			p.L = append(p.L, flat.Flow{Name: "x" + strconv.Itoa(i), Kind: api.Int, E: e(i)})
		}
		return p
	}
	sum := func(n int) tree.Expr {
		return op("+", op("+", op("+", name("i"), name("i")), name("i")), op("neg", number(n)))
	}
	p := all(func(i int) tree.Expr { return sum(7) })
	x := p
	x.L = p.L[:1]
	want(t, Same, p, x)
	p.Out = []string{"x3", "x399"}
	x.Out, x.L = p.Out, slices.Concat(p.L[:1], p.L[3:4], p.L[399:])
	want(t, Same, p, x)
	p = all(func(i int) tree.Expr { return sum(i % 128) })
	x.Out, x.L = nil, p.L[:128]
	want(t, Same, p, x)
	// each names the one ahead
	p = all(func(i int) tree.Expr {
		if i < 2 {
			return name("i")
		}
		return op("fby", number(1), name("x"+strconv.Itoa(i-2)))
	})
	x.L = nil
	for i := 0; i < api.MaxFlat; i += 2 {
		x.L = append(x.L, p.L[i])
	}
	want(t, Same, p, x)
	want(t, Same, sample.Divisions(200), sample.Divisions(200))
	want(t, Same, flat.Program{}, flat.Program{})
}
