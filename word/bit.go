package word

import "lustrum/api"

// half of all ints are below 0.
const half = 1 << (api.Bits - 1)

func isInt(n int) bool { return -half <= n && n < half }

func bitOf(n, i int) int { return n >> i & 1 }

// bitsOf a number: as many of the lowest ones as are asked for.
func bitsOf(n, many int) []bool {
	l := make([]bool, many)
	for i := range l {
		l[i] = bitOf(n, i) == 1
	}
	return l
}

// numberOf bits, without a sign.
func numberOf(bits []bool) int {
	n := 0
	for i, b := range bits {
		if b {
			n |= 1 << i
		}
	}
	return n
}
