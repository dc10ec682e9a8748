package flow

import "lustrum/api"

// half of all ints are below 0.
const half = 1 << (api.Bits - 1)

// around brings what is beyond the ints back among them.
func around(n int) int { return (n+half)&(2*half-1) - half }

func isInt(n int) bool { return n == around(n) }

// truth is the number of a bool.
func truth(b bool) int {
	if b {
		return 1
	}
	return 0
}

// isNone tells whether there is no such value.
func isNone(v api.Value) bool {
	switch v.Kind {
	case api.Bool:
		return v.N != 0 && v.N != 1
	case api.Int:
		return !isInt(v.N)
	}
	return true
}

// isOf tells whether it is a value of a type.
func isOf(v api.Value, kind int) bool { return v.Kind == kind && !isNone(v) }

func kindsOf(l []api.Value) []int {
	kinds := make([]int, len(l))
	for i, v := range l {
		kinds[i] = v.Kind
	}
	return kinds
}

func numbersOf(l []api.Value) []int {
	numbers := make([]int, len(l))
	for i, v := range l {
		numbers[i] = v.N
	}
	return numbers
}
