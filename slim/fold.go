package slim

import (
	"lustrum/api"
	"lustrum/flow"
	"lustrum/plan"
	"lustrum/tree"
)

// folder of a program's terms. It is to be given all of them, one by one in the order in which they stand: the plan has numbered their parts so.
func folder(x *plan.Plan) func(tree.Expr) tree.Expr {
	next := len(x.Inputs)
	var fold func(e tree.Expr) tree.Expr
	fold = func(e tree.Expr) tree.Expr {
		e = like(e, fold)
		was := x.Parts[next]
		next++
		if e.Op == "if" {
			return chosen(e, func(part int) bool { return x.Parts[was.Of[part]].Late })
		}
		return applied(e)
	}
	return fold
}

// chosen part of an if, where it is known and the other one can go: that one must not trap, nor make late what would not be late without it, since what is late does not trap at the first instant.
func chosen(e tree.Expr, late func(part int) bool) tree.Expr {
	asked, ok := valueOf(e.L[0])
	if !ok {
		return e
	}
	counts, other := 1, 2
	if asked.N == 0 {
		counts, other = other, counts
	}
	if divides(e.L[other]) || late(other) && !late(counts) {
		return e
	}
	return e.L[counts]
}

// applied operator, if its parts are literals, and there is a literal of what it makes of them.
func applied(e tree.Expr) tree.Expr {
	var l []api.Value
	for _, part := range e.L {
		v, ok := valueOf(part)
		if !ok {
			return e
		}
		l = append(l, v)
	}
	// What knows of time, or is a literal itself, is no operator.
	v, trap, err := flow.Apply(e.Op, l)
	if trap || err != nil {
		return e
	}
	if made, ok := literalOf(v); ok {
		return made
	}
	return e
}

// valueOf a literal, if it is one.
func valueOf(e tree.Expr) (v api.Value, ok bool) {
	switch e.Op {
	case "true":
		return api.Value{Kind: api.Bool, N: 1}, true
	case "false":
		return api.Value{Kind: api.Bool, N: 0}, true
	case "int":
		return api.Value{Kind: api.Int, N: e.N}, true
	case "neg":
		part := e.L[0]
		return api.Value{Kind: api.Int, N: -part.N}, part.Op == "int"
	}
	return api.Value{}, false
}

// literalOf a value, if there is one: of the least int there is none.
func literalOf(v api.Value) (e tree.Expr, ok bool) {
	switch {
	case v.Kind == api.Bool && v.N == 0:
		return tree.Expr{Op: "false"}, true
	case v.Kind == api.Bool:
		return tree.Expr{Op: "true"}, true
	case v.N >= 0:
		return tree.Expr{Op: "int", N: v.N}, true
	}
	part := tree.Expr{Op: "int", N: -v.N}
	return tree.Expr{Op: "neg", L: []tree.Expr{part}}, tree.Formed(part)
}
