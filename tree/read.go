package tree

import (
	"slices"

	"lustrum/api"
	"lustrum/lex"
)

// Kinds of equations.
const (
	kindSet    = "set"
	kindAssert = "assert"
	kindCheck  = "check"
)

// Words of types.
const (
	wordBool = "bool"
	wordInt  = "int"
)

// reader goes through tokens, the last of which is the end; it throws at the first one that cannot stand where it is.
type reader struct {
	tokens []lex.Token
	at     int // of the token that is next
	deep   int // parts of a term that are open there
}

func (r *reader) next() lex.Token { return r.tokens[r.at] }

// is tells whether the next token has one of these texts: those of words and ops, which nothing else has.
func (r *reader) is(texts ...string) bool { return slices.Contains(texts, r.next().Text) }

func (r *reader) isName() bool { return r.next().Kind == "name" }

// take the next token. The end is never taken: it is none of those that are asked for.
func (r *reader) take() string {
	t := r.next()
	r.at++
	return t.Text
}

func (r *reader) fail(err error) {
	panic(thrown{&api.Fault{At: r.next().At, Err: err}})
}

func (r *reader) expect(text string) {
	if !r.is(text) {
		r.fail(api.ErrText)
	}
	r.take()
}

func (r *reader) name() string {
	if !r.isName() {
		r.fail(api.ErrText)
	}
	return r.take()
}

func (r *reader) program() []Node {
	var l []Node
	for r.next().Kind != "end" {
		if r.is("node") && len(l) == api.MaxNodes {
			r.fail(api.ErrBound)
		}
		l = append(l, r.node())
	}
	return l
}

func (r *reader) node() Node {
	var n Node
	r.expect("node")
	n.Name = r.name()
	r.expect("(")
	if !r.is(")") {
		n.In = r.vars()
	}
	r.expect(")")
	r.expect("returns")
	r.expect("(")
	n.Out = r.vars()
	r.expect(")")
	r.expect(";")
	if r.is("var") {
		n.Own = r.ownVars()
	}
	r.expect("let")
	for !r.is("tel") {
		n.L = append(n.L, r.equation())
	}
	r.expect("tel")
	return n
}

func (r *reader) vars() []Var {
	l := []Var{r.oneVar()}
	for r.is(";") {
		r.take()
		l = append(l, r.oneVar())
	}
	return l
}

// ownVars have a `;` behind the last one, too: only what stands behind it tells whether it was the last.
func (r *reader) ownVars() []Var {
	r.expect("var")
	l := []Var{r.oneVar()}
	r.expect(";")
	for r.isName() {
		l = append(l, r.oneVar())
		r.expect(";")
	}
	return l
}

func (r *reader) oneVar() Var {
	name := r.name()
	r.expect(":")
	return Var{Name: name, Kind: r.kind()}
}

func (r *reader) kind() int {
	if r.is(wordBool) {
		r.take()
		return api.Bool
	}
	r.expect(wordInt)
	return api.Int
}

func (r *reader) equation() Equation {
	var q Equation
	if r.is(kindAssert, kindCheck) {
		q.Kind = r.take()
	} else {
		q.Kind = kindSet
		q.Names = r.names()
		r.expect("=")
	}
	q.E = r.term()
	r.expect(";")
	return q
}

func (r *reader) names() []string {
	if !r.is("(") {
		return []string{r.name()}
	}
	r.take()
	l := []string{r.name()}
	r.expect(",")
	l = append(l, r.name())
	for r.is(",") {
		r.take()
		l = append(l, r.name())
	}
	r.expect(")")
	return l
}
