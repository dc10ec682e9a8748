package tree

import (
	"strconv"
	"strings"

	"lustrum/api"
)

// writer writes a program, or a term alone; it throws what cannot be written.
type writer struct {
	text strings.Builder
	most int // bytes of the text
	deep int // terms that are open
}

func (w *writer) fail() { panic(thrown{api.ErrShape}) }

// put asks for the bound ahead of writing: what is given might be more than memory holds, or have parts that share theirs and are without end.
func (w *writer) put(texts ...string) {
	for _, s := range texts {
		if len(s) > w.most-w.text.Len() {
			w.fail()
		}
		w.text.WriteString(s)
	}
}

// between puts a text ahead of all of a list but the first.
func (w *writer) between(i int, text string) {
	if i > 0 {
		w.put(text)
	}
}

func (w *writer) program(l []Node) {
	for _, n := range l {
		w.node(n)
	}
}

func (w *writer) node(n Node) {
	w.put("node ", n.Name, "(")
	w.vars(n.In)
	w.put(") returns (")
	w.vars(n.Out)
	w.put(");\n")
	if len(n.Own) > 0 {
		w.put("var ")
		w.vars(n.Own)
		w.put(";\n")
	}
	w.put("let\n")
	for _, q := range n.L {
		w.equation(q)
	}
	w.put("tel\n")
}

func (w *writer) vars(l []Var) {
	for i, v := range l {
		w.between(i, "; ")
		w.put(v.Name, ": ")
		w.kind(v.Kind)
	}
}

func (w *writer) kind(kind int) {
	switch kind {
	case api.Bool:
		w.put(wordBool)
	case api.Int:
		w.put(wordInt)
	default:
		w.fail()
	}
}

func (w *writer) equation(q Equation) {
	w.put("  ")
	switch q.Kind {
	case kindSet:
		w.names(q.Names)
		w.put(" = ")
	case kindAssert, kindCheck:
		w.put(q.Kind, " ")
	default:
		w.fail()
	}
	w.term(q.E, levelTerm)
	w.put(";\n")
}

func (w *writer) names(l []string) {
	if len(l) == 1 {
		w.put(l[0])
		return
	}
	w.put("(")
	for i, name := range l {
		w.between(i, ", ")
		w.put(name)
	}
	w.put(")")
}

// term is written in brackets where only terms of a tighter level may stand.
func (w *writer) term(e Expr, least int) {
	// Each term is a byte at least, but parts on the left are gone into ahead of the first byte.
	if w.deep == api.MaxSource {
		w.fail()
	}
	w.deep++
	s := w.shape(e)
	if s.level < least {
		w.put("(")
		w.bare(e, s)
		w.put(")")
	} else {
		w.bare(e, s)
	}
	w.deep--
}

// shape of a term, which must be formed as its operator's are.
func (w *writer) shape(e Expr) shape {
	if !Formed(e) {
		w.fail()
	}
	if e.Op == "call" {
		return shape{level: levelAtom}
	}
	s, _ := shapeOf(e.Op)
	return s
}

func (w *writer) bare(e Expr, s shape) {
	part := func(i int) { w.term(e.L[i], s.parts[i]) }
	switch e.Op {
	case "int":
		w.put(strconv.Itoa(e.N))
	case "true", "false":
		w.put(e.Op)
	case "name":
		w.put(e.S)
	case "call":
		w.call(e)
	case "if":
		w.put("if ")
		part(0)
		w.put(" then ")
		part(1)
		w.put(" else ")
		part(2)
	case "neg":
		w.neg(e.L[0], s.parts[0])
	case "not", "pre":
		w.put(e.Op, " ")
		part(0)
	default:
		part(0)
		w.put(" ", e.Op, " ")
		part(1)
	}
}

// neg has no blank behind its sign: without brackets, a second sign would make it a comment.
func (w *writer) neg(part Expr, least int) {
	if part.Op == "neg" {
		least = levelAtom
	}
	w.put("-")
	w.term(part, least)
}

func (w *writer) call(e Expr) {
	w.put(e.S, "(")
	for i, a := range e.L {
		w.between(i, ", ")
		w.term(a, levelTerm)
	}
	w.put(")")
}
