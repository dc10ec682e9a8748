package slim

import (
	"math/rand"
	"slices"
	"strings"
	"sync"
	"testing"

	"lustrum/api"
	"lustrum/flat"
	"lustrum/tree"
)

// TestP2Always: the same is made, also where others make it slim.
func TestP2Always(t *testing.T) {
	r := rand.New(rand.NewSource(2))
	for range 100 {
		p := drawnProgram(r, drawn(r, 600))
		for _, f := range hows() {
			l := make([]flat.Program, 8)
			var wait sync.WaitGroup
			for i := range l {
				wait.Go(func() {
					var err error
					if l[i], err = f(p); err != nil {
						t.Error(err)
					}
				})
			}
			wait.Wait()
			for _, x := range l {
				if text(t, x) != text(t, l[0]) {
					t.Fatalf("%s and %s", text(t, x), text(t, l[0]))
				}
			}
		}
	}
}

// spoil a program: whatever it has is written over, and so is the room behind its lists.
func spoil(p flat.Program) {
	for i := range p.L {
		spoilTerm(&p.L[i].E)
		p.L[i].Name, p.L[i].Kind = "none", 7
	}
	for _, l := range [][]tree.Expr{p.Asserts, p.Checks} {
		for i := range l {
			spoilTerm(&l[i])
		}
		_ = append(l, op("none"))
	}
	for i := range p.In {
		p.In[i] = tree.Var{Name: "none", Kind: 9}
	}
	for i := range p.Out {
		p.Out[i] = "none"
	}
	_ = append(p.In, tree.Var{Name: "more"})
	_ = append(p.Out, "more")
	_ = append(p.L, flat.Flow{Name: "more"})
}

func spoilTerm(e *tree.Expr) {
	for i := range e.L {
		spoilTerm(&e.L[i])
	}
	_ = append(e.L, op("none"))
	e.Op, e.N, e.S = "none", 300, "none"
}

// roomy program: behind each of its lists there is room, with something in it.
func roomy(p flat.Program) flat.Program {
	var room func(e tree.Expr) tree.Expr
	room = func(e tree.Expr) tree.Expr {
		l := slices.Clone(e.L)
		for i, part := range l {
			l[i] = room(part)
		}
		if len(l) > 0 {
			e.L = append(l, op("behind"))[:len(l)]
		}
		return e
	}
	p = changed(p, room)
	p.In = append(slices.Clone(p.In), tree.Var{Name: "behind"})[:len(p.In)]
	p.Out = append(slices.Clone(p.Out), "behind")[:len(p.Out)]
	p.L = append(p.L, flat.Flow{Name: "behind"})[:len(p.L)]
	p.Asserts = append(p.Asserts, op("behind"))[:len(p.Asserts)]
	p.Checks = append(p.Checks, op("behind"))[:len(p.Checks)]
	return p
}

// hasRoom tells whether all is still there that is behind the lists of a roomy program.
func hasRoom(p flat.Program) bool {
	isBehind := func(l []tree.Expr) bool { return l[:len(l)+1][len(l)].Op == "behind" }
	var has func(e tree.Expr) bool
	has = func(e tree.Expr) bool {
		return len(e.L) == 0 || isBehind(e.L) && !slices.ContainsFunc(e.L, func(part tree.Expr) bool { return !has(part) })
	}
	for _, f := range p.L {
		if !has(f.E) {
			return false
		}
	}
	for _, l := range [][]tree.Expr{p.Asserts, p.Checks} {
		if !isBehind(l) || slices.ContainsFunc(l, func(e tree.Expr) bool { return !has(e) }) {
			return false
		}
	}
	return p.In[:len(p.In)+1][len(p.In)].Name == "behind" && p.Out[:len(p.Out)+1][len(p.Out)] == "behind" && p.L[:len(p.L)+1][len(p.L)].Name == "behind"
}

// TestP4Memory: a program is only read, also behind its lists; what is made of it is nobody else's.
func TestP4Memory(t *testing.T) {
	r := rand.New(rand.NewSource(4))
	for range 500 {
		p := roomy(drawnProgram(r, drawn(r, 300)))
		before := text(t, p)
		for word, f := range hows() {
			x, again := slimmed(t, f, p), slimmed(t, f, p)
			made := text(t, x)
			spoil(x)
			if text(t, again) != made || text(t, p) != before || text(t, slimmed(t, f, p)) != made {
				t.Fatalf("%s: %s has changed", word, before)
			}
			if !hasRoom(p) {
				t.Fatalf("%s: behind %s all has changed", word, before)
			}
			other := roomy(p)
			x = slimmed(t, f, other)
			spoil(other)
			if text(t, x) != made {
				t.Fatalf("%s: %s is the argument's", word, made)
			}
		}
	}
}

// TestP4Apart: no two lists of what is made share memory, also where those of what it is made of do.
func TestP4Apart(t *testing.T) {
	part := op("+", name("i"), op("neg", op("-", name("i"), name("j"))))
	p := flat.Program{
		In:  []tree.Var{{Name: "i", Kind: api.Int}, {Name: "j", Kind: api.Int}},
		Out: []string{"x", "y", "z"},
		L: []flat.Flow{
			{Name: "x", Kind: api.Int, E: part},
			{Name: "y", Kind: api.Int, E: part},
			{Name: "z", Kind: api.Int, E: op("*", part, op("if", op("true"), part, part))},
		},
		Asserts: []tree.Expr{op("=", part, part), op("<", part, part)},
		Checks:  []tree.Expr{op("=", part, part), op("<", part, part)},
	}
	before := text(t, p)
	for word, f := range hows() {
		x := slimmed(t, f, p)
		for i := range x.L {
			turnsOne(t, word, x, &x.L[i].E)
		}
		for i := range x.Asserts {
			turnsOne(t, word, x, &x.Asserts[i])
			turnsOne(t, word, x, &x.Checks[i])
		}
		if text(t, p) != before {
			t.Errorf("%s: %s has changed", word, before)
		}
	}
}

// turnsOne term of a program, and holds all others to what they were: of a part that was there twice names would be what they were, too.
func turnsOne(t *testing.T, word string, x flat.Program, e *tree.Expr) {
	t.Helper()
	lines := strings.Split(text(t, x), "\n")
	turned := secondNamed(secondNamed(secondNamed(*e, "i", "k"), "j", "i"), "k", "j")
	turn(e)
	changes := 0
	for i, s := range strings.Split(text(t, x), "\n") {
		if s != lines[i] {
			changes++
		}
	}
	if changes != 1 || !alikeTerms(*e, turned) {
		t.Errorf("%s: %d lines have changed, the term to %v", word, changes, *e)
	}
}

func turn(e *tree.Expr) {
	switch e.S {
	case "i":
		e.S = "j"
	case "j":
		e.S = "i"
	}
	for i := range e.L {
		turn(&e.L[i])
	}
}

// TestP1Shared: a part that stands at many places of one term.
func TestP1Shared(t *testing.T) {
	e, sum := op("not", name("b")), op("xor", op("true"), op("true"))
	for range 9 {
		e, sum = op("or", e, e), op("xor", sum, sum)
	}
	p := flat.Program{In: []tree.Var{{Name: "b", Kind: api.Bool}}, Checks: []tree.Expr{e, sum}}
	want(t, Fold, p, flat.Program{In: p.In, Checks: []tree.Expr{e, op("false")}})
	want(t, Drop, p, p)
	want(t, Same, p, p)
}
