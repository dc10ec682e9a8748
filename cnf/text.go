package cnf

import (
	"strconv"
	"strings"

	"lustrum/api"
)

func written(f Formula) string {
	b := []byte("p cnf ")
	say := func(n int, behind byte) { b = append(strconv.AppendInt(b, int64(n), 10), behind) }
	say(f.Vars, ' ')
	say(len(f.L), '\n')
	for _, c := range f.L {
		for _, n := range c {
			say(n, ' ')
		}
		say(0, '\n')
	}
	return string(b)
}

// read a text as it stands: whether its numbers make a formula is not asked here.
func read(s string) (Formula, error) {
	wrong := func(line int) (Formula, error) { return Formula{}, &api.Fault{At: line, Err: api.ErrText} }
	lines := strings.Split(strings.TrimSuffix(s, "\n"), "\n")
	vars, clauses, ok := head(lines[0])
	if !ok {
		return wrong(0)
	}
	f := Formula{Vars: vars}
	for i, line := range lines[1:] {
		c, ok := clause(line)
		if !ok {
			return wrong(1 + i)
		}
		f.L = append(f.L, c)
	}
	// Behind the clauses, since a line that is none is told ahead of their number.
	if clauses != len(f.L) {
		return wrong(0)
	}
	return f, nil
}

// head of a text: how many variables and clauses it tells of.
func head(line string) (vars, clauses int, ok bool) {
	rest, found := strings.CutPrefix(line, "p cnf ")
	first, second, two := strings.Cut(rest, " ")
	vars, isVars := number(first)
	clauses, isClauses := number(second)
	return vars, clauses, found && two && isVars && isClauses && vars >= 0 && clauses >= 0
}

// clause of a line: its last number is 0, and no other one is.
func clause(line string) (api.Clause, bool) {
	words := strings.Split(line, " ")
	last := len(words) - 1
	c := make(api.Clause, last)
	for i, word := range words[:last] {
		n, ok := number(word)
		if !ok || n == 0 {
			return nil, false
		}
		c[i] = n
	}
	return c, words[last] == "0"
}

// number of a word, if it is written as numbers are: many more words can be read as one.
func number(word string) (int, bool) {
	n, err := strconv.Atoi(word)
	return n, err == nil && strconv.Itoa(n) == word
}
