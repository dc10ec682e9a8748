package cnf

import (
	"fmt"
	"math"
	"strings"
	"testing"

	"lustrum/api"
)

func TestP112Text(t *testing.T) {
	for _, c := range []struct {
		f    Formula
		want string
	}{
		{Formula{}, "p cnf 0 0\n"},
		{Formula{Vars: 7}, "p cnf 7 0\n"},
		{Formula{L: []api.Clause{{}}}, "p cnf 0 1\n0\n"},
		{Formula{L: []api.Clause{nil, nil}}, "p cnf 0 2\n0\n0\n"},
		{Formula{Vars: 3, L: []api.Clause{{1, -3}, {}, {2}}}, "p cnf 3 3\n1 -3 0\n0\n2 0\n"},
		{Formula{Vars: 1, L: []api.Clause{{1, -1, 1}}}, "p cnf 1 1\n1 -1 1 0\n"},
		{Formula{Vars: api.MaxVars, L: []api.Clause{{-150000, 10, 100}}}, "p cnf 150000 1\n-150000 10 100 0\n"},
	} {
		s, err := Text(c.f)
		if s != c.want || err != nil {
			t.Errorf("%v: %q, %v, want %q", c.f, s, err, c.want)
		}
		for _, s := range []string{s, strings.TrimSuffix(s, "\n")} {
			if f, err := Read(s); !alike(f, c.f) || err != nil {
				t.Errorf("%q: %v, %v, want %v", s, f, err, c.f)
			}
		}
	}
}

// TestP112TextRefused: what Check refuses, and as it does.
func TestP112TextRefused(t *testing.T) {
	for _, f := range []Formula{{Vars: -1}, {Vars: api.MaxVars + 1, L: []api.Clause{{0}}}, {L: make([]api.Clause, api.MaxClauses+1)}} {
		if s, err := Text(f); s != "" || err != api.ErrBound {
			t.Errorf("%q, %v", s, err)
		}
	}
	for at, f := range []Formula{{L: []api.Clause{{1}}}, {Vars: 1, L: []api.Clause{{1}, {0}}}, {Vars: 2, L: []api.Clause{{2}, {-2}, {1, -3}, {0}}}, {Vars: 2, L: []api.Clause{{}, {}, {}, {math.MinInt}}}} {
		if s, err := Text(f); s != "" || !isFault(err, api.ErrShape, at) {
			t.Errorf("%v: %q, %v", f, s, err)
		}
	}
}

// TestP112TextLong: only what is read has a bound in bytes.
func TestP112TextLong(t *testing.T) {
	f := Formula{Vars: 1, L: make([]api.Clause, api.MaxClauses)}
	s, err := Text(f)
	if want := "p cnf 1 500000\n" + strings.Repeat("0\n", api.MaxClauses); s != want || err != nil {
		t.Error(len(s), err)
	}
	if f, err := Read(s); !isZero(f) || err != api.ErrBound {
		t.Error(err)
	}
}

func TestP112ReadBound(t *testing.T) {
	head := "p cnf 1 99992\n"
	s := head + strings.Repeat("0\n", 99992)
	if len(s) != 199998 {
		t.Fatal(len(s))
	}
	if f, err := Read(s); f.Vars != 1 || len(f.L) != 99992 || err != nil {
		t.Error(len(f.L), err)
	}
	// one line more makes 200000 bytes, and one byte more is one too many, whatever stands there
	for _, c := range []struct {
		s  string
		ok bool
	}{
		{"p cnf 1 99993\n" + strings.Repeat("0\n", 99993), true},
		{"p cnf 1 99994\n" + strings.Repeat("0\n", 99993) + "0", false},
		{strings.Repeat("?", 200001), false},
		{"p cnf 9 1\n" + strings.Repeat("9 ", 100000) + "0\n", false},
	} {
		f, err := Read(c.s)
		if c.ok != (err == nil) || !c.ok && (err != api.ErrBound || !isZero(f)) {
			t.Errorf("%d bytes: %d clauses, %v", len(c.s), len(f.L), err)
		}
	}
	if f, err := Read(strings.Repeat("?", 200000)); !isZero(f) || !isFault(err, api.ErrText, 0) {
		t.Error(err)
	}
	long := "p cnf 9 1\n" + strings.Repeat("-9 ", 66662) + "0\n"
	if f, err := Read(long); len(f.L) != 1 || len(f.L[0]) != 66662 || err != nil {
		t.Error(len(long), err)
	}
}

// TestP112Head: the first line.
func TestP112Head(t *testing.T) {
	for _, head := range []string{
		"", "p", "p cnf", "p cnf ", "p cnf 1", "p cnf 1 ", "p cnf 1 0 ", "p cnf 1 0 0", " p cnf 1 0", "p  cnf 1 0", "p cnf  1 0", "p cnf 1  0",
		"P cnf 1 0", "p CNF 1 0", "p cnf\t1 0", "p cnf 1 0\r", "c p cnf 1 0", "p cnf 1,0", "cnf 1 0", "1 0", "p cnf 1 0;", "q cnf 1 0", "p dnf 1 0",
		"p cnf -1 0", "p cnf 1 -1", "p cnf 1 -0", "p cnf -0 0", "p cnf +1 0", "p cnf 1 +0", "p cnf 01 0", "p cnf 1 00", "p cnf 1_0 0", "p cnf 0x1 0", "p cnf 1. 0", "p cnf a 0", "p cnf 1 b", "p cnf ١ 0",
		"p cnf 99999999999999999999 0", "p cnf 9223372036854775808 0", "p cnf 1 18446744073709551616",
	} {
		for _, behind := range []string{"", "\n", "\n0\n", "\n?\n"} {
			if f, err := Read(head + behind); !isZero(f) || !isFault(err, api.ErrText, 0) {
				t.Errorf("%q: %v, %v", head+behind, f, err)
			}
		}
	}
}

// TestP112Line: those behind the first one.
func TestP112Line(t *testing.T) {
	for _, line := range []string{
		"", " ", "1", "-1", "1 ", "1 0 ", " 1 0", "1  0", " 0", "0 ", "00", "-0", "+0", "1 -0", "0 0", "0 1 0", "1 0 0", "1 0 1 0", "1 0 1",
		"01 0", "+1 0", "-01 0", "--1 0", "- 1 0", "-0 0", "1\t0", "1 0\r", "a 0", "1a 0", "1_0 0", "1.0 0", "0x1 0", "1 00", "1 O", "c 1 0", "p cnf 2 1", "%", "١ 0", "1 \xff 0", "1 0\x00",
		"9223372036854775808 0", "-9223372036854775809 0", "1 99999999999999999999 0",
	} {
		for at := 1; at < 4; at++ {
			good := strings.Repeat("1 -2 0\n", at-1)
			for _, s := range []string{
				fmt.Sprintf("p cnf 2 %d\n%s%s\n", at, good, line),
				fmt.Sprintf("p cnf 2 %d\n%s%s\n2 0\n", at+1, good, line),
				fmt.Sprintf("p cnf 2 %d\n%s%s\n?\n", at+1, good, line),
				// a line that is none is told ahead of what the first one says
				fmt.Sprintf("p cnf 2 0\n%s%s\n", good, line),
				fmt.Sprintf("p cnf 2 9\n%s%s\n", good, line),
				// and ahead of what Check says of others
				fmt.Sprintf("p cnf 1 %d\n%s%s\n", at, good, line),
				fmt.Sprintf("p cnf 150001 %d\n%s%s\n", at, good, line),
			} {
				if f, err := Read(s); !isZero(f) || !isFault(err, api.ErrText, at) {
					t.Errorf("%q: %v, %v", s, f, err)
				}
			}
		}
	}
}

// TestP112Agrees: the first line tells of just as many clauses as there are.
func TestP112Agrees(t *testing.T) {
	for _, s := range []string{
		"p cnf 1 1", "p cnf 1 1\n", "p cnf 1 0\n1 0\n", "p cnf 1 0\n1 0", "p cnf 1 2\n1 0\n", "p cnf 1 2\n1 0", "p cnf 1 1\n1 0\n1 0", "p cnf 1 600000\n1 0\n", "p cnf 1 9223372036854775807\n0\n",
		// also where Check would say something
		"p cnf 150001 1\n", "p cnf 1 2\n5 0\n", "p cnf 0 0\n5 0\n",
	} {
		if f, err := Read(s); !isZero(f) || !isFault(err, api.ErrText, 0) {
			t.Errorf("%q: %v, %v", s, f, err)
		}
	}
}

// TestP112ReadChecked: numbers of no variable, by the number of their clause, and bounds.
func TestP112ReadChecked(t *testing.T) {
	for _, c := range []struct {
		s  string
		at int
	}{
		{"p cnf 1 1\n2 0\n", 0},
		{"p cnf 1 1\n-2 0", 0},
		{"p cnf 0 2\n0\n1 0\n", 1},
		{"p cnf 2 3\n1 -2 0\n2 1 0\n1 2 -3 0\n", 2},
		{"p cnf 2 3\n0\n1 3 0\n4 0\n", 1},
		{"p cnf 9 1\n9223372036854775807 0\n", 0},
		{"p cnf 9 2\n9 0\n-9223372036854775808 0\n", 1},
	} {
		if f, err := Read(c.s); !isZero(f) || !isFault(err, api.ErrShape, c.at) {
			t.Errorf("%q: %v, %v", c.s, f, err)
		}
	}
	for _, s := range []string{"p cnf 150001 0\n", "p cnf 9223372036854775807 0", "p cnf 150001 1\n150002 0\n"} {
		if f, err := Read(s); !isZero(f) || err != api.ErrBound {
			t.Errorf("%q: %v, %v", s, f, err)
		}
	}
}
