package flat

import (
	"strings"

	"lustrum/api"
	"lustrum/tree"
)

// writer writes the lines of a program that has been checked.
type writer struct{ strings.Builder }

func (w *writer) line(texts ...string) {
	for _, s := range texts {
		w.WriteString(s)
	}
	w.WriteByte('\n')
}

func (w *writer) program(p Program) {
	for _, v := range p.In {
		w.line("in ", v.Name, " ", wordOf(v.Kind))
	}
	for _, f := range p.L {
		w.line(f.Name, " ", wordOf(f.Kind), " = ", textOf(f.E))
	}
	for _, name := range p.Out {
		w.line("out ", name)
	}
	for _, e := range p.Asserts {
		w.line("assert ", textOf(e))
	}
	for _, e := range p.Checks {
		w.line("check ", textOf(e))
	}
}

// textOf a term, which has one: Check asks for all that tree.Term asks for.
func textOf(e tree.Expr) string {
	s, _ := tree.Term(e)
	return s
}

func wordOf(kind int) string {
	if kind == api.Bool {
		return "bool"
	}
	return "int"
}
