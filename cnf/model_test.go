package cnf

import (
	"math/big"
	"math/rand"
	"regexp"
	"slices"
	"strings"
	"testing"

	"lustrum/api"
	"lustrum/graph"
)

// secondOf is Of by the document's words: gates are needed until no more are.
func secondOf(g *graph.Graph, roots []api.Lit) (Formula, []int, error) {
	needed := map[int]bool{}
	for _, x := range roots {
		if x < 0 || x > api.Lit(2*g.Gates()-1) {
			return Formula{}, nil, api.ErrShape
		}
		needed[int(x)/2] = true
	}
	for before := -1; before < len(needed); {
		before = len(needed)
		for n := range g.Gates() {
			if a, b, input, err := g.Parts(n); needed[n] && err == nil && !input {
				needed[int(a)/2], needed[int(b)/2] = true, true
			}
		}
	}
	f, vars := Formula{}, make([]int, g.Gates())
	for n := 1; n < g.Gates(); n++ {
		if needed[n] {
			f.Vars++
			vars[n] = f.Vars
		}
	}
	value := func(x api.Lit) int { return vars[x/2] * (1 - 2*int(x%2)) }
	for n := 1; n < g.Gates(); n++ {
		a, b, input, _ := g.Parts(n)
		if x := vars[n]; x > 0 && !input {
			f.L = append(f.L, api.Clause{-x, value(a)}, api.Clause{-x, value(b)}, api.Clause{x, -value(a), -value(b)})
		}
	}
	for _, x := range roots {
		if x == 0 {
			f.L = append(f.L, api.Clause{})
		} else if x > 1 {
			f.L = append(f.L, api.Clause{value(x)})
		}
	}
	return f, vars, nil
}

var (
	headLine   = regexp.MustCompile(`^p cnf (0|[1-9][0-9]*) (0|[1-9][0-9]*)$`)
	clauseLine = regexp.MustCompile(`^(-?[1-9][0-9]* )*0$`)
)

// numbers of words, if ints can be all of them.
func numbers(words []string) ([]int, bool) {
	l, ok := make([]int, len(words)), true
	for i, w := range words {
		n, _ := new(big.Int).SetString(w, 10)
		ok = ok && n.IsInt64()
		l[i] = int(n.Int64())
	}
	return l, ok
}

// secondRead is Read by the forms of lines. The text has at most maxText bytes.
func secondRead(s string) (Formula, error) {
	wrong := func(at int) (Formula, error) { return Formula{}, &api.Fault{At: at, Err: api.ErrText} }
	var f Formula
	says := 0
	for at, line := range regexp.MustCompile(`\n`).Split(regexp.MustCompile(`\n\z`).ReplaceAllString(s, ""), -1) {
		if at == 0 {
			m := headLine.FindStringSubmatch(line)
			if m == nil {
				return wrong(0)
			}
			l, ok := numbers(m[1:])
			if !ok {
				return wrong(0)
			}
			f.Vars, says = l[0], l[1]
			continue
		}
		if !clauseLine.MatchString(line) {
			return wrong(at)
		}
		l, ok := numbers(strings.Fields(line))
		if !ok {
			return wrong(at)
		}
		f.L = append(f.L, l[:len(l)-1])
	}
	if says != len(f.L) {
		return wrong(0)
	}
	if err := secondCheck(f); err != nil {
		return Formula{}, err
	}
	return f, nil
}

func secondCheck(f Formula) error {
	if f.Vars < 0 || f.Vars > 150000 || len(f.L) > 500000 {
		return api.ErrBound
	}
	for i, c := range f.L {
		for _, n := range c {
			if n == 0 || n > f.Vars || n < 0 && n < -f.Vars {
				return &api.Fault{At: i, Err: api.ErrShape}
			}
		}
	}
	return nil
}

func sameError(a, b error) bool {
	f, ok := a.(*api.Fault)
	g, also := b.(*api.Fault)
	if ok && also {
		return *f == *g
	}
	return a == b
}

// seen counts what games have shown.
type seen struct {
	formulas, strangers, taken, refused, empty   int
	read, wrongHead, wrongLine, noVariable, wide int
}

// game of choices.
type game struct {
	t       testing.TB
	choices []byte
	seen    *seen
}

func (p *game) choose(n int) int {
	if len(p.choices) == 0 {
		return 0
	}
	c := int(p.choices[0])
	p.choices = p.choices[1:]
	return c % n
}

// graph of at most so many gates.
func (p *game) graph(gates int) *graph.Graph {
	g := new(graph.Graph)
	for g.Gates() < gates && len(p.choices) > 0 {
		if p.choose(4) == 0 {
			g.Input()
			continue
		}
		n := 2 * g.Gates()
		if _, err := g.And(api.Lit(p.choose(n)), api.Lit(p.choose(n))); err != nil {
			p.t.Fatal(err)
		}
	}
	return g
}

// roots of a graph; now and then one of them is none.
func (p *game) roots(g *graph.Graph) []api.Lit {
	var l []api.Lit
	for range p.choose(6) {
		switch p.choose(40) {
		case 0:
			l = append(l, api.Lit(-1-p.choose(3)))
		case 1:
			l = append(l, api.Lit(2*g.Gates()+p.choose(3)))
		default:
			l = append(l, api.Lit(p.choose(2*g.Gates())))
		}
	}
	return l
}

// of a graph: both formulas are one, and it holds just where gates are worked out and roots hold.
func (p *game) of() {
	p.t.Helper()
	g := p.graph(2 + p.choose(12))
	roots := p.roots(g)
	f, vars, err := Of(g, roots)
	want, wantVars, wantErr := secondOf(g, roots)
	if !alike(f, want) || !slices.Equal(vars, wantVars) || err != wantErr {
		p.t.Fatalf("%v: %v, %v, %v, want %v, %v, %v", roots, f, vars, err, want, wantVars, wantErr)
	}
	if err != nil {
		p.seen.strangers++
		return
	}
	p.seen.formulas++
	if err := Check(f); err != nil {
		p.t.Fatal(f, err)
	}
	p.compare(g, roots, f, vars)
	s, err := Text(f)
	if back, bad := Read(s); !alike(back, f) || err != nil || bad != nil {
		p.t.Fatalf("%v: %q, %v, %v, %v", f, s, back, err, bad)
	}
}

func (p *game) compare(g *graph.Graph, roots []api.Lit, f Formula, vars []int) {
	p.t.Helper()
	models := 0
	for n := range 1 << f.Vars {
		values := bitsOf(n, f.Vars)
		want := workedOut(p.t, g, roots, vars, values)
		if holds(f, values) != want {
			p.t.Fatalf("%v of %v: %v, want %v", f, values, !want, want)
		}
		if want {
			models++
			p.seen.taken++
		} else {
			p.seen.refused++
		}
	}
	if models == 0 {
		p.seen.empty++
	}
}

// workedOut: do variables have the values of their gates, and do all roots hold? Inputs without a variable are set both ways, since nothing may hang on them.
func workedOut(t testing.TB, g *graph.Graph, roots []api.Lit, vars []int, values []bool) bool {
	t.Helper()
	var answers [2]bool
	for i, other := range []bool{false, true} {
		var in []bool
		var gates []api.Lit
		var want []bool
		for n := 1; n < g.Gates(); n++ {
			_, _, input, _ := g.Parts(n)
			switch x := vars[n]; {
			case x > 0 && input:
				in = append(in, values[x-1])
			case x > 0:
				gates, want = append(gates, api.Lit(2*n)), append(want, values[x-1])
			case input:
				in = append(in, other)
			}
		}
		got, err := g.Eval(in, gates)
		all, bad := g.Eval(in, roots)
		if err != nil || bad != nil {
			t.Fatal(err, bad)
		}
		answers[i] = slices.Equal(got, want) && !slices.Contains(all, false)
	}
	if answers[0] != answers[1] {
		t.Fatal("something hangs on an input that nothing needs")
	}
	return answers[0]
}

// number of a clause; most are of one of the variables.
func (p *game) number(vars int) int {
	n := 1 + p.choose(max(vars, 1))
	if p.choose(60) == 0 {
		n = vars + p.choose(3)
	}
	if p.choose(2) == 0 {
		return -n
	}
	return n
}

func (p *game) formula() Formula {
	f := Formula{Vars: p.choose(12)}
	if p.choose(30) == 0 {
		f.Vars = api.MaxVars - 1 + p.choose(3)
	}
	for range p.choose(6) {
		c := api.Clause{}
		for range p.choose(5) {
			c = append(c, p.number(f.Vars))
		}
		f.L = append(f.L, c)
	}
	return f
}

// changed text: some bytes are others, some are gone, some are there twice.
func (p *game) changed(s string) string {
	const others = "\n 0-+19pcf\x00\t"
	b := []byte(s)
	for range p.choose(3) {
		at := p.choose(len(b) + 1)
		switch with := others[p.choose(len(others))]; p.choose(3) {
		case 0:
			b = slices.Insert(b, at, with)
		case 1:
			b = slices.Delete(b, min(at, len(b)), min(at+1, len(b)))
		case 2:
			if at < len(b) {
				b[at] = with
			}
		}
	}
	return string(b)
}

// text of a formula, written without asking whether it is one, and changed; both readers take the same of it.
func (p *game) text() {
	p.t.Helper()
	f := p.formula()
	if err := Check(f); !sameError(err, secondCheck(f)) {
		p.t.Fatal(f, err)
	}
	p.reads(p.changed(written(f)))
}

func (p *game) reads(s string) {
	p.t.Helper()
	f, err := Read(s)
	want, wantErr := secondRead(s)
	if !alike(f, want) || !sameError(err, wantErr) {
		p.t.Fatalf("%q: %v, %v, want %v, %v", s, f, err, want, wantErr)
	}
	fault, _ := err.(*api.Fault)
	switch {
	case err == api.ErrBound:
		p.seen.wide++
	case fault == nil:
		p.seen.read++
		if back, err := Text(f); err != nil || back != s && back != s+"\n" {
			p.t.Fatalf("%q: %q, %v", s, back, err)
		}
	case fault.Err == api.ErrShape:
		p.seen.noVariable++
	case fault.At == 0:
		p.seen.wrongHead++
	default:
		p.seen.wrongLine++
	}
}

func play(t testing.TB, s *seen, choices []byte) {
	t.Helper()
	p := &game{t: t, choices: choices, seen: s}
	p.text()
	p.of()
}

func drawn(r *rand.Rand, n int) []byte {
	l := make([]byte, n)
	r.Read(l)
	return l
}

func TestP113Second(t *testing.T) {
	r := rand.New(rand.NewSource(113))
	s := new(seen)
	for range 30000 {
		play(t, s, drawn(r, 40+r.Intn(160)))
	}
	if s.formulas < 20000 || s.strangers < 2000 || s.taken < 15000 || s.refused < 300000 || s.empty < 4000 {
		t.Errorf("only %+v", *s)
	}
	if s.read < 5000 || s.wrongHead < 5000 || s.wrongLine < 4000 || s.noVariable < 1000 || s.wide < 100 {
		t.Errorf("only %+v", *s)
	}
}

func FuzzCnf(f *testing.F) {
	r := rand.New(rand.NewSource(114))
	f.Add(drawn(r, 60), "p cnf 2 1\n1 -2 0\n")
	f.Add(drawn(r, 200), "p cnf 0 0")
	f.Fuzz(func(t *testing.T, choices []byte, s string) {
		if len(choices) < 300 {
			play(t, new(seen), choices)
		}
		if len(s) <= maxText {
			(&game{t: t, seen: new(seen)}).reads(s)
		}
	})
}
