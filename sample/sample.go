// Package sample makes programs, inputs and states for the tests of other packages. What it makes hangs on the choices that are handed in, so that tests may draw them, and a fuzzer may change them.
package sample

import (
	"lustrum/api"
	"lustrum/flat"
	"lustrum/tree"
)

// Program that order.Check finds right.
func Program(choices []byte) flat.Program {
	m := &maker{chooser: chooser{choices}}
	return m.program()
}

// Inputs of a program, for so many instants; small ints, and 0, are there more often than others.
func Inputs(choices []byte, p flat.Program, instants int) [][]api.Value {
	c := &chooser{choices}
	var l [][]api.Value
	for range instants {
		l = append(l, c.values(kindsOf(p.In)))
	}
	return l
}

// Values of such types, likewise.
func Values(choices []byte, kinds []int) []api.Value {
	c := &chooser{choices}
	return c.values(kinds)
}

func kindsOf(vars []tree.Var) []int {
	kinds := make([]int, len(vars))
	for i, v := range vars {
		kinds[i] = v.Kind
	}
	return kinds
}
