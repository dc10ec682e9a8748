package tree

import (
	"strconv"

	"lustrum/api"
)

// enter takes the token that opens a part of a term; leave ends that part.
func (r *reader) enter() string {
	if r.deep == api.MaxDeep {
		r.fail(api.ErrBound)
	}
	r.deep++
	return r.take()
}

func (r *reader) leave() { r.deep-- }

func (r *reader) term() Expr {
	if r.is("if") {
		return r.choice()
	}
	left := r.or()
	if !r.is("->", "fby") {
		return left
	}
	// What is on the left has ended, and is not inside; what is on the right is.
	op := r.enter()
	right := r.term()
	r.leave()
	return Expr{Op: op, L: []Expr{left, right}}
}

func (r *reader) choice() Expr {
	op := r.enter()
	asked := r.term()
	r.expect("then")
	yes := r.term()
	r.expect("else")
	no := r.term()
	r.leave()
	return Expr{Op: op, L: []Expr{asked, yes, no}}
}

func (r *reader) or() Expr { return r.fromLeft(r.and, "or", "xor") }

func (r *reader) and() Expr { return r.fromLeft(r.not, "and") }

func (r *reader) not() Expr {
	if r.is("not") {
		return r.prefix("not", r.not)
	}
	return r.comparison()
}

func (r *reader) comparison() Expr {
	left := r.sum()
	if !r.is("=", "<>", "<", "<=", ">", ">=", "=>") {
		return left
	}
	op := r.take()
	right := r.sum()
	return Expr{Op: op, L: []Expr{left, right}}
}

func (r *reader) sum() Expr { return r.fromLeft(r.product, "+", "-") }

func (r *reader) product() Expr { return r.fromLeft(r.unary, "*", "/", "mod") }

// fromLeft reads parts with such operators between: each one has all that is on its left as one part.
func (r *reader) fromLeft(part func() Expr, ops ...string) Expr {
	e := part()
	for r.is(ops...) {
		op := r.take()
		right := part()
		e = Expr{Op: op, L: []Expr{e, right}}
	}
	return e
}

func (r *reader) unary() Expr {
	switch {
	case r.is("-"):
		return r.prefix("neg", r.unary)
	case r.is("pre"):
		return r.prefix("pre", r.unary)
	}
	return r.atom()
}

func (r *reader) prefix(op string, part func() Expr) Expr {
	r.enter()
	e := part()
	r.leave()
	return Expr{Op: op, L: []Expr{e}}
}

func (r *reader) atom() Expr {
	switch {
	case r.next().Kind == "int":
		n, _ := strconv.Atoi(r.take()) // lex has held it to what an int can be
		return Expr{Op: "int", N: n}
	case r.is("true", "false"):
		return Expr{Op: r.take()}
	case r.isName():
		return r.nameOrCall()
	}
	return r.bracketed()
}

func (r *reader) bracketed() Expr {
	if !r.is("(") {
		r.fail(api.ErrText)
	}
	r.enter()
	e := r.term()
	r.leave()
	r.expect(")")
	return e
}

func (r *reader) nameOrCall() Expr {
	name := r.take()
	if !r.is("(") {
		return Expr{Op: "name", S: name}
	}
	r.enter()
	l := r.arguments()
	r.leave()
	r.expect(")")
	return Expr{Op: "call", S: name, L: l}
}

func (r *reader) arguments() []Expr {
	if r.is(")") {
		return nil
	}
	l := []Expr{r.term()}
	for r.is(",") {
		r.take()
		l = append(l, r.term())
	}
	return l
}
