package tree

import (
	"math/rand"
	"slices"
	"strconv"
	"strings"
	"testing"

	"lustrum/api"
	"lustrum/lex"
)

// spelled is a term with brackets around all of its parts, so that no level counts.
func spelled(e Expr) string {
	var l []string
	for _, p := range e.L {
		l = append(l, "("+spelled(p)+")")
	}
	switch {
	case e.Op == "int":
		return strconv.Itoa(e.N)
	case e.Op == "name":
		return e.S
	case e.Op == "call":
		return e.S + "(" + strings.Join(l, ",") + ")"
	case e.Op == "if":
		return "if " + l[0] + " then " + l[1] + " else " + l[2]
	case e.Op == "neg":
		return "-" + l[0]
	case len(l) == 1:
		return e.Op + l[0]
	case len(l) == 2:
		return l[0] + e.Op + l[1]
	}
	return e.Op
}

// without each pair of brackets in turn, calls' aside, a term must be another one, or none; but such a pair may stand around a `-` right behind a `-`.
func without(t *testing.T, l []Node, s string) {
	t.Helper()
	tokens := mustLex(t, s)
	var open []int
	for i, x := range tokens {
		switch x.Text {
		case "(":
			open = append(open, i)
		case ")":
			from := open[len(open)-1]
			open = open[:len(open)-1]
			if x.At < len(before) || tokens[from-1].Kind == "name" || behindSign(s, tokens[from].At, x.At) {
				continue
			}
			text, err := lex.Text(slices.Concat(tokens[:from], tokens[from+1:i], tokens[i+1:]))
			if err != nil {
				t.Fatal(err)
			}
			if back, err := Read(text); err == nil && alike(back, l) {
				t.Errorf("%q: the brackets at %d are not needed", s, tokens[from].At)
			}
		}
	}
}

// behindSign tells whether the brackets at these bytes stand right behind a `-`, and have all of a `-` ahead in them.
func behindSign(s string, from, to int) bool {
	if s[from-1] != '-' || s[from+1] != '-' {
		return false
	}
	l, err := Read(before + s[from+1:to] + behind)
	return err == nil && l[0].L[0].E.Op == "neg"
}

func mustLex(t *testing.T, s string) []lex.Token {
	t.Helper()
	l, err := lex.Lex(s)
	if err != nil {
		t.Fatal(err)
	}
	return l
}

// wantAll holds of a term: spelled out, it is read; it is written, read again, and has no needless brackets.
func wantAll(t *testing.T, e Expr) {
	t.Helper()
	l := program(e)
	full := before + spelled(e) + behind
	if back, err := Read(full); err != nil || !alike(back, l) {
		t.Errorf("%q: %v, %v", full, back, err)
	}
	s, err := Text(l)
	if err != nil {
		t.Errorf("%v: %v", e, err)
		return
	}
	if back, err := Read(s); err != nil || !alike(back, l) {
		t.Errorf("%q: %v, %v", s, back, err)
	}
	without(t, l, s)
}

// shallow terms: one of each operator.
func shallow() []Expr {
	l := []Expr{num(1), named("x"), op("true"), call("f"), call("f", named("x"), num(2)), op("if", named("x"), num(1), num(2))}
	for _, o := range []string{"not", "neg", "pre"} {
		l = append(l, op(o, named("x")))
	}
	for _, o := range binaries {
		l = append(l, op(o, named("x"), num(1)))
	}
	return l
}

// TestP24EachInEach: each operator, with each other one in each of its parts.
func TestP24EachInEach(t *testing.T) {
	few := shallow()
	for _, a := range few {
		for _, o := range []string{"not", "neg", "pre"} {
			wantAll(t, op(o, a))
			wantAll(t, op(o, op("neg", a)))
			wantAll(t, op("neg", op(o, a)))
		}
		wantAll(t, call("f", a))
		for _, b := range few {
			for _, o := range binaries {
				wantAll(t, op(o, a, b))
			}
			wantAll(t, call("f", a, b))
			for _, c := range few {
				wantAll(t, op("if", a, b, c))
			}
			if t.Failed() {
				return
			}
		}
	}
}

// anyTerm of some size.
func anyTerm(r *rand.Rand, size int) Expr {
	if size <= 1 {
		return []Expr{num(r.Intn(128)), named("x"), named("y_1"), op("true"), op("false"), call("f")}[r.Intn(6)]
	}
	part := 1 + r.Intn(size-1)
	switch r.Intn(8) {
	case 0:
		return op([]string{"not", "neg", "pre"}[r.Intn(3)], anyTerm(r, size-1))
	case 1:
		return op("if", anyTerm(r, size/3), anyTerm(r, size/3), anyTerm(r, size/3))
	case 2:
		return call("g", anyTerm(r, part), anyTerm(r, size-part))
	}
	return op(binaries[r.Intn(len(binaries))], anyTerm(r, part), anyTerm(r, size-part))
}

// TestP25AnyTerms: those that are not too deep, spelled out or not, are written and read.
func TestP25AnyTerms(t *testing.T) {
	r := rand.New(rand.NewSource(1))
	many := 0
	for n := range 10000 {
		e := anyTerm(r, 1+n%25)
		if _, err := Read(before + spelled(e) + behind); err == nil {
			many++
			wantAll(t, e)
		}
		if t.Failed() {
			return
		}
	}
	if many < 7500 {
		t.Error("too few terms were held", many)
	}
}

// broken is a term with something wrong at one of its parts, which is drawn by lots.
func broken(r *rand.Rand, e Expr) Expr {
	if len(e.L) > 0 && r.Intn(3) > 0 {
		e.L = slices.Clone(e.L)
		i := r.Intn(len(e.L))
		e.L[i] = broken(r, e.L[i])
		return e
	}
	switch r.Intn(4) {
	case 0:
		e.N += 128
	case 1:
		e.S += " "
	case 2:
		e.Op += " "
	default:
		if e.Op == "call" {
			e.S = ""
		} else {
			e.L = append(slices.Clone(e.L), num(1))
		}
	}
	return e
}

func TestP24BrokenTerms(t *testing.T) {
	r := rand.New(rand.NewSource(2))
	for n := range 5000 {
		wantShape(t, program(broken(r, anyTerm(r, 1+n%12))))
		if t.Failed() {
			return
		}
	}
}

// anyProgram as tokens: most of them as the grammar has it.
func anyProgram(r *rand.Rand) string {
	l := []Node{}
	for range r.Intn(3) {
		n := Node{Name: "a", In: anyVars(r, 0), Out: anyVars(r, 1), Own: anyVars(r, 0)}
		for range r.Intn(3) {
			q := Equation{Kind: "set", Names: []string{"x", "y", "z"}[:1+r.Intn(3)], E: anyTerm(r, 1+r.Intn(6))}
			if r.Intn(2) > 0 {
				q = Equation{Kind: []string{"assert", "check"}[r.Intn(2)], E: q.E}
			}
			n.L = append(n.L, q)
		}
		l = append(l, n)
	}
	s, _ := Text(l)
	return s
}

func anyVars(r *rand.Rand, least int) []Var {
	var l []Var
	for range least + r.Intn(3) {
		l = append(l, Var{"v", []int{api.Bool, api.Int}[r.Intn(2)]})
	}
	return l
}

// TestP23AnyPrograms: programs with tokens taken out, put in, and changed.
func TestP23AnyPrograms(t *testing.T) {
	r := rand.New(rand.NewSource(3))
	m := newModel()
	for range 4000 {
		tokens := mustLex(t, anyProgram(r))
		var l []string
		for _, x := range tokens[:len(tokens)-1] {
			l = append(l, x.Text)
		}
		m.holds(t, strings.Join(l, " "))
		for range 1 + r.Intn(2) {
			i := r.Intn(len(l) + 1)
			other := everyToken[r.Intn(len(everyToken))]
			switch {
			case r.Intn(3) == 0 || i == len(l):
				l = slices.Insert(l, i, other)
			case r.Intn(2) == 0:
				l = slices.Delete(l, i, i+1)
			default:
				l[i] = other
			}
		}
		m.holds(t, strings.Join(l, " "))
		if t.Failed() {
			return
		}
	}
}

func FuzzRead(f *testing.F) {
	for _, s := range []string{"", oneNode, head + "f(1, -(-2)) -> if not x then y else pre (z mod 3)" + tail, "node", "node a(x: bool;) returns", before + strings.Repeat("- ", 21) + "1"} {
		f.Add(s)
	}
	m := newModel()
	f.Fuzz(func(t *testing.T, s string) {
		tokens, fault := lex.Lex(s)
		l, err := Read(s)
		switch f, ok := err.(*api.Fault); {
		case fault != nil:
			if err == nil || err.Error() != fault.Error() || len(l) != 0 {
				t.Errorf("%q: %v, want %v", s, err, fault)
			}
		case ok && f.Err == api.ErrBound:
			if len(l) != 0 || len(tokens) <= api.MaxDeep {
				t.Errorf("%q: %v, %v", s, l, err)
			}
		case len(tokens) < 300:
			m.holds(t, s)
		}
	})
}
