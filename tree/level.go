package tree

// Levels of the grammar, from the loosest one on: each has the terms of all that come behind it, too.
const (
	levelTerm = iota
	levelOr
	levelAnd
	levelNot
	levelComparison
	levelSum
	levelProduct
	levelUnary
	levelAtom
)

// shape of an operator's terms: their level, and for each part the loosest one at which it stands without brackets.
type shape struct {
	level int
	parts []int
}

// shapeOf an operator; of a call there is none, since it has any number of parts.
func shapeOf(op string) (shape, bool) {
	switch op {
	case "int", "true", "false", "name":
		return shape{level: levelAtom}, true
	case "if":
		return shape{levelTerm, []int{levelTerm, levelTerm, levelTerm}}, true
	case "->", "fby":
		return shape{levelTerm, []int{levelOr, levelTerm}}, true
	case "or", "xor":
		return shape{levelOr, []int{levelOr, levelAnd}}, true
	case "and":
		return shape{levelAnd, []int{levelAnd, levelNot}}, true
	case "not":
		return shape{levelNot, []int{levelNot}}, true
	case "=", "<>", "<", "<=", ">", ">=", "=>":
		return shape{levelComparison, []int{levelSum, levelSum}}, true
	case "+", "-":
		return shape{levelSum, []int{levelSum, levelProduct}}, true
	case "*", "/", "mod":
		return shape{levelProduct, []int{levelProduct, levelUnary}}, true
	case "neg", "pre":
		return shape{levelUnary, []int{levelUnary}}, true
	}
	return shape{}, false
}
