package types

import (
	"slices"

	"lustrum/api"
	"lustrum/tree"
)

// checker goes through nodes, one by one; it throws at the first thing that is wrong.
type checker struct {
	operators map[string]sign
	nodes     map[string]sign // those ahead
	kinds     map[string]int  // of the names of the node that it is in
	unset     map[string]int  // of those that an equation is still to set
	parts     []int           // the types of terms of one value, as they were gone through
}

func newChecker() *checker {
	return &checker{operators: signs(), nodes: map[string]sign{}}
}

func (c *checker) node(n tree.Node) {
	if _, twice := c.nodes[n.Name]; twice {
		panic(wrongName{})
	}
	c.declare(n)
	for _, q := range n.L {
		c.equation(q)
	}
	if len(c.unset) > 0 {
		panic(neverSet{})
	}
	c.learn(n)
}

// learn a node only when it has been gone through: no node calls itself.
func (c *checker) learn(n tree.Node) { c.nodes[n.Name] = signOf(n) }

// declare the names of a node, in place of those of the one ahead.
func (c *checker) declare(n tree.Node) {
	c.kinds, c.unset = map[string]int{}, map[string]int{}
	for _, v := range slices.Concat(n.In, n.Out, n.Own) {
		if _, twice := c.kinds[v.Name]; twice {
			panic(wrongName{})
		}
		c.kinds[v.Name] = v.Kind
	}
	for _, v := range slices.Concat(n.Out, n.Own) {
		c.unset[v.Name] = v.Kind
	}
}

func (c *checker) equation(q tree.Equation) {
	wanted := []int{api.Bool}
	if q.Kind == "set" {
		wanted = c.set(q.Names)
	}
	if !slices.Equal(c.values(q.E), wanted) {
		panic(wrongType{})
	}
}

// set names, and answer their types.
func (c *checker) set(names []string) []int {
	kinds := make([]int, len(names))
	for i, name := range names {
		kind, ok := c.unset[name]
		if !ok {
			panic(wrongName{})
		}
		kinds[i] = kind
		delete(c.unset, name)
	}
	return kinds
}

// values answers the types of a term's values: a call may have more than one.
func (c *checker) values(e tree.Expr) []int {
	if e.Op == "name" {
		return []int{c.named(e.S)}
	}
	// The sign is asked for ahead of the parts: that a call's node is there comes ahead of its arguments.
	s := c.sign(e)
	parts := make([]int, len(e.L))
	for i, part := range e.L {
		parts[i] = c.value(part)
	}
	return s.apply(parts)
}

// value answers the type of a term that has one value.
func (c *checker) value(e tree.Expr) int {
	l := c.values(e)
	if len(l) != 1 {
		panic(wrongType{})
	}
	c.parts = append(c.parts, l[0])
	return l[0]
}

func (c *checker) named(name string) int {
	kind, ok := c.kinds[name]
	if !ok {
		panic(wrongName{})
	}
	return kind
}

// sign of a term; tree.Text has held the term to operators that there are.
func (c *checker) sign(e tree.Expr) sign {
	if e.Op != "call" {
		return c.operators[e.Op]
	}
	s, ok := c.nodes[e.S]
	if !ok {
		panic(wrongName{})
	}
	return s
}
