package sample

import (
	"lustrum/flat"
)

// Spoil a program at some place, so that it may be wrong. It writes into the program's terms.
func Spoil(choices []byte, p *flat.Program) {
	c := &chooser{choices}
	if len(p.L) == 0 {
		p.Out = append(p.Out, "f0")
		return
	}
	e := &p.L[c.choose(len(p.L))].E
	for len(e.L) > 0 && c.choose(3) > 0 {
		e = &e.L[c.choose(len(e.L))]
	}
	switch c.choose(4) {
	case 0:
		*e = op("pre", *e)
	case 1:
		*e = name(c.word("i", "b", "f0", "f1", "f2"))
	case 2:
		e.Op = c.word("not", "neg", "+", "and", "=", "->", "fby", "if", "call", "")
	default:
		e.L = append(e.L, whole(1))
	}
}
