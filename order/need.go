package order

import (
	"slices"

	"lustrum/flat"
	"lustrum/tree"
)

// needsOf each flow of a program: the numbers of those that it needs at once.
func needsOf(p flat.Program) [][]int {
	numbers := map[string]int{}
	for i, f := range p.L {
		numbers[f.Name] = i
	}
	needs := make([][]int, len(p.L))
	for i, f := range p.L {
		atOnce(f.E, func(name string) {
			// Inputs have no number: they are there ahead of all flows.
			if n, ok := numbers[name]; ok {
				needs[i] = append(needs[i], n)
			}
		})
	}
	return needs
}

// atOnce shows each name that a term needs at once.
func atOnce(e tree.Expr, see func(name string)) {
	parts := e.L
	switch e.Op {
	case "name":
		see(e.S)
	case "pre":
		parts = nil
	case "fby":
		parts = e.L[:1]
	}
	for _, part := range parts {
		atOnce(part, see)
	}
}

// there is how many needs a flow waits for that has got its place: it is not taken again.
const there = -1

// inOrder answers the flows that can be put in order: all, or those that need nothing in a cycle.
func inOrder(needs [][]int) []int {
	waits := make([]int, len(needs)) // for how many needs
	users := make([][]int, len(needs))
	for i, l := range needs {
		waits[i] = len(l)
		for _, n := range l {
			users[n] = append(users[n], i)
		}
	}
	var order []int
	for {
		least := slices.Index(waits, 0)
		if least < 0 {
			return order
		}
		order = append(order, least)
		waits[least] = there
		for _, user := range users[least] {
			waits[user]--
		}
	}
}

// leastOfCycles is the least flow that needs itself. That some flow stays without a place does not say that it is in a cycle: it may only need one that is.
func leastOfCycles(needs [][]int) int {
	least := 0
	for !needsItself(needs, least) {
		least++
	}
	return least
}

func needsItself(needs [][]int, flow int) bool {
	seen := make([]bool, len(needs))
	work := []int{flow}
	for len(work) > 0 {
		last := len(work) - 1
		i := work[last]
		work = work[:last]
		for _, n := range needs[i] {
			if !seen[n] {
				seen[n] = true
				work = append(work, n)
			}
		}
	}
	return seen[flow]
}
