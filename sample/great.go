package sample

import (
	"strconv"

	"lustrum/api"
	"lustrum/flat"
	"lustrum/tree"
)

// Divisions: a program of so many, no two of which are of the same two inputs, each of them an output. It has as many inputs as there can be, all of them ints.
func Divisions(n int) flat.Program {
	var p flat.Program
	for i := range api.MaxParts {
		p.In = append(p.In, tree.Var{Name: "i" + strconv.Itoa(i), Kind: api.Int})
	}
	for f := range n {
		a, b := p.In[f%api.MaxParts].Name, p.In[(f+1+f/api.MaxParts)%api.MaxParts].Name
		p.L = append(p.L, flat.Flow{Name: "f" + strconv.Itoa(f), Kind: api.Int, E: op("/", name(a), name(b))})
		p.Out = append(p.Out, p.L[f].Name)
	}
	return p
}

// Heavy: x hangs on so many products of unlike words at each instant, and is checked; but y, that b was so, holds at sight.
func Heavy(n int) flat.Program {
	x := op("fby", whole(1), name("x"))
	for k := range n {
		x = op("+", op("*", x, op("+", name("i"), whole(k))), whole(1))
	}
	return flat.Program{
		In:      []tree.Var{{Name: "i", Kind: api.Int}, {Name: "b", Kind: api.Bool}},
		L:       []flat.Flow{{Name: "x", Kind: api.Int, E: x}, {Name: "y", Kind: api.Bool, E: op("fby", op("true"), name("b"))}},
		Asserts: []tree.Expr{name("b")},
		Checks:  []tree.Expr{op("or", name("y"), op("=", name("x"), whole(77)))},
	}
}
