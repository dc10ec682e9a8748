package flow

// operator makes a number of numbers: of a bool 0 or 1.
type operator func(l []int) (n int, trap bool)

// operators that know nothing of time, by their names. They ask for as many numbers as types has types for, and for values that there are.
func operators() map[string]operator {
	all := map[string]operator{
		"not": func(l []int) (int, bool) { return 1 - l[0], false },
		"neg": func(l []int) (int, bool) { return around(-l[0]), false },
		"if":  func(l []int) (int, bool) { return l[2-l[0]], false },
	}
	for op, f := range reckonings() {
		all[op] = func(l []int) (int, bool) { return around(f(l[0], l[1])), false }
	}
	for op, f := range divisions() {
		all[op] = func(l []int) (int, bool) {
			if l[1] == 0 {
				return 0, true
			}
			return around(f(l[0], l[1])), false
		}
	}
	for op, f := range truths() {
		all[op] = func(l []int) (int, bool) { return truth(f(l[0], l[1])), false }
	}
	return all
}

// reckonings of ints; what is beyond them is still to go around.
func reckonings() map[string]func(a, b int) int {
	return map[string]func(a, b int) int{
		"+": func(a, b int) int { return a + b },
		"-": func(a, b int) int { return a - b },
		"*": func(a, b int) int { return a * b },
	}
}

// divisions of ints, not by 0; of these only -128 by -1 is still to go around.
func divisions() map[string]func(a, b int) int {
	return map[string]func(a, b int) int{
		"/":   func(a, b int) int { return a / b },
		"mod": func(a, b int) int { return a % b },
	}
}

// truths of bools, or of ints; two bools are the same if their numbers are.
func truths() map[string]func(a, b int) bool {
	return map[string]func(a, b int) bool{
		"and": func(a, b int) bool { return a == 1 && b == 1 },
		"or":  func(a, b int) bool { return a == 1 || b == 1 },
		"xor": func(a, b int) bool { return a != b },
		"=>":  func(a, b int) bool { return a == 0 || b == 1 },
		"=":   func(a, b int) bool { return a == b },
		"<>":  func(a, b int) bool { return a != b },
		"<":   func(a, b int) bool { return a < b },
		"<=":  func(a, b int) bool { return a <= b },
		">":   func(a, b int) bool { return a > b },
		">=":  func(a, b int) bool { return a >= b },
	}
}
