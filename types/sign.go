package types

import (
	"lustrum/api"
	"lustrum/tree"
)

// some stands in a sign for a type that is not told there: all that have it are of one type, whichever.
const some = 0

// sign of an operator or a node: the types of its parts, and those of its values.
type sign struct {
	takes, gives []int
}

// signs of all operators; a name and a call have theirs by what they name.
func signs() map[string]sign {
	one, two := []int{some}, []int{some, some}
	aBool, bools := []int{api.Bool}, []int{api.Bool, api.Bool}
	anInt, ints := []int{api.Int}, []int{api.Int, api.Int}
	return map[string]sign{
		"int":   {nil, anInt},
		"true":  {nil, aBool},
		"false": {nil, aBool},
		"not":   {aBool, aBool},
		"and":   {bools, aBool},
		"or":    {bools, aBool},
		"xor":   {bools, aBool},
		"=>":    {bools, aBool},
		"neg":   {anInt, anInt},
		"+":     {ints, anInt},
		"-":     {ints, anInt},
		"*":     {ints, anInt},
		"/":     {ints, anInt},
		"mod":   {ints, anInt},
		"<":     {ints, aBool},
		"<=":    {ints, aBool},
		">":     {ints, aBool},
		">=":    {ints, aBool},
		"=":     {two, aBool},
		"<>":    {two, aBool},
		"pre":   {one, one},
		"->":    {two, one},
		"fby":   {two, one},
		"if":    {[]int{api.Bool, some, some}, one},
	}
}

// signOf a node, by which it is called.
func signOf(n tree.Node) sign { return sign{kindsOf(n.In), kindsOf(n.Out)} }

func kindsOf(l []tree.Var) []int {
	kinds := make([]int, len(l))
	for i, v := range l {
		kinds[i] = v.Kind
	}
	return kinds
}

// apply answers the types of the values that parts of such types give.
func (s sign) apply(parts []int) []int {
	if len(parts) != len(s.takes) {
		panic(wrongType{})
	}
	found := some
	for i, kind := range s.takes {
		if kind == some {
			if found == some {
				found = parts[i]
			}
			kind = found
		}
		if parts[i] != kind {
			panic(wrongType{})
		}
	}
	gives := make([]int, len(s.gives))
	for i, kind := range s.gives {
		if kind == some {
			kind = found
		}
		gives[i] = kind
	}
	return gives
}
