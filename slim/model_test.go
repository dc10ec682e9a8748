package slim

import (
	"math/rand"
	"reflect"
	"slices"
	"strconv"
	"testing"

	"lustrum/api"
	"lustrum/flat"
	"lustrum/flow"
	"lustrum/order"
	"lustrum/sample"
	"lustrum/tree"
)

// labelled term: with what it is late by in the program from which it is, and how it came to be.
type labelled struct {
	op   string
	n    int
	s    string
	late int
	l    []*labelled
}

// latesOf flows and inputs of a program, by their names.
func latesOf(t testing.TB, p flat.Program) map[string]int {
	t.Helper()
	l, err := order.Late(p)
	if err != nil {
		t.Fatal(err)
	}
	lates := map[string]int{}
	for i, f := range p.L {
		lates[f.Name] = l[i]
	}
	return lates
}

func label(e tree.Expr, lates map[string]int) *labelled {
	x := &labelled{op: e.Op, n: e.N, s: e.S}
	most := 0
	for _, part := range e.L {
		x.l = append(x.l, label(part, lates))
		most = max(most, x.l[len(x.l)-1].late)
	}
	switch e.Op {
	case "name":
		x.late = lates[e.S]
	case "pre":
		x.late = most + 1
	case "->", "fby":
		x.late = x.l[0].late
	default:
		x.late = most
	}
	return x
}

func (x *labelled) unlabelled() tree.Expr {
	e := tree.Expr{Op: x.op, N: x.n, S: x.s}
	for _, part := range x.l {
		e.L = append(e.L, part.unlabelled())
	}
	return e
}

func (x *labelled) divides() bool {
	return x.op == "/" || x.op == "mod" || slices.ContainsFunc(x.l, (*labelled).divides)
}

// literal, as what flow.Apply takes; nil: it is none.
func (x *labelled) literal() []api.Value {
	switch {
	case x.op == "true":
		return []api.Value{{Kind: api.Bool, N: 1}}
	case x.op == "false":
		return []api.Value{{Kind: api.Bool}}
	case x.op == "int":
		return []api.Value{{Kind: api.Int, N: x.n}}
	case x.op == "neg" && x.l[0].op == "int" && x.l[0].n > 0:
		return []api.Value{{Kind: api.Int, N: -x.l[0].n}}
	}
	return nil
}

// folded, as it stands, without its parts; nil: it stays.
func (x *labelled) folded() *labelled {
	var l []api.Value
	for _, part := range x.l {
		l = append(l, part.literal()...)
	}
	switch {
	case x.literal() != nil:
		return nil
	case x.op == "if" && x.l[0].literal() != nil:
		counts, other := x.l[1], x.l[2]
		if x.l[0].op == "false" {
			counts, other = other, counts
		}
		if other.divides() || other.late > counts.late {
			return nil
		}
		return counts
	case len(x.l) == 0 || len(l) < len(x.l) || slices.Contains([]string{"pre", "->", "fby", "if"}, x.op):
		return nil
	}
	v, trap, err := flow.Apply(x.op, l)
	if trap || err != nil || v.N == -128 {
		return nil
	}
	e := literal(v.N)
	if v.Kind == api.Bool {
		e = op(strconv.FormatBool(v.N > 0))
	}
	return label(e, nil)
}

// places of a term's parts, it being one.
func (x *labelled) places() []*labelled {
	l := []*labelled{x}
	for _, part := range x.l {
		l = append(l, part.places()...)
	}
	return l
}

// secondTerm of Fold: whatever part there is to be folded is, in no order, until there is none.
func secondTerm(r *rand.Rand, e tree.Expr, lates map[string]int) tree.Expr {
	x := label(e, lates)
	for {
		l := slices.DeleteFunc(x.places(), func(part *labelled) bool { return part.folded() == nil })
		if len(l) == 0 {
			return x.unlabelled()
		}
		part := l[r.Intn(len(l))]
		*part = *part.folded()
	}
}

func secondFold(t testing.TB, r *rand.Rand, p flat.Program) flat.Program {
	lates := latesOf(t, p)
	return changed(p, func(e tree.Expr) tree.Expr { return secondTerm(r, e, lates) })
}

// changed program: each of its terms.
func changed(p flat.Program, change func(tree.Expr) tree.Expr) flat.Program {
	p.L = slices.Clone(p.L)
	for i, f := range p.L {
		p.L[i].E = change(f.E)
	}
	each := func(l []tree.Expr) []tree.Expr {
		l = slices.Clone(l)
		for i, e := range l {
			l[i] = change(e)
		}
		return l
	}
	p.Asserts, p.Checks = each(p.Asserts), each(p.Checks)
	return p
}

// namesOf a term.
func namesOf(e tree.Expr) []string {
	var l []string
	if e.Op == "name" {
		l = []string{e.S}
	}
	for _, part := range e.L {
		l = append(l, namesOf(part)...)
	}
	return l
}

// secondDrop: names are marked until no more are.
func secondDrop(p flat.Program) flat.Program {
	marked := slices.Clone(p.Out)
	for _, e := range slices.Concat(p.Asserts, p.Checks) {
		marked = append(marked, namesOf(e)...)
	}
	for _, f := range p.L {
		if label(f.E, nil).divides() {
			marked = append(marked, f.Name)
		}
	}
	for {
		slices.Sort(marked)
		marked = slices.Compact(marked)
		n := len(marked)
		for _, f := range p.L {
			for _, s := range namesOf(f.E) {
				if slices.Contains(marked, f.Name) && !slices.Contains(marked, s) {
					marked = append(marked, s)
				}
			}
		}
		if len(marked) == n {
			p.L = slices.DeleteFunc(slices.Clone(p.L), func(f flat.Flow) bool { return !slices.Contains(marked, f.Name) })
			return p
		}
	}
}

// secondSame: each time that one goes, all terms are written anew.
func secondSame(p flat.Program) flat.Program {
	for at := 0; at < len(p.L); at++ {
		f := p.L[at]
		if slices.Contains(p.Out, f.Name) || label(f.E, nil).divides() {
			continue
		}
		i := slices.IndexFunc(p.L[:at], func(ahead flat.Flow) bool { return alikeTerms(ahead.E, f.E) })
		if i < 0 {
			continue
		}
		into := p.L[i].Name
		p.L = slices.Delete(slices.Clone(p.L), at, at+1)
		p = changed(p, func(e tree.Expr) tree.Expr { return secondNamed(e, f.Name, into) })
		at--
	}
	return p
}

func secondNamed(e tree.Expr, from, into string) tree.Expr {
	if e.Op == "name" && e.S == from {
		return name(into)
	}
	e.L = slices.Clone(e.L)
	for i, part := range e.L {
		e.L[i] = secondNamed(part, from, into)
	}
	return e
}

// kindOf a term, where names have such kinds.
func kindOf(e tree.Expr, kinds map[string]int) int {
	switch {
	case e.Op == "name":
		return kinds[e.S]
	case slices.Contains([]string{"pre", "->", "fby", "if"}, e.Op):
		return kindOf(e.L[len(e.L)-1], kinds)
	case slices.Contains([]string{"int", "neg", "+", "-", "*", "/", "mod"}, e.Op):
		return api.Int
	}
	return api.Bool
}

// spiced program: in so many of a hundred places there is a literal now; so there is more often where an if asks.
func spiced(r *rand.Rand, p flat.Program, often int) flat.Program {
	kinds := map[string]int{}
	for _, v := range p.In {
		kinds[v.Name] = v.Kind
	}
	for _, f := range p.L {
		kinds[f.Name] = f.Kind
	}
	var spice func(e tree.Expr, often int) tree.Expr
	spice = func(e tree.Expr, of int) tree.Expr {
		switch {
		case r.Intn(100) >= of:
		case kindOf(e, kinds) == api.Bool:
			return op(strconv.FormatBool(r.Intn(2) == 0))
		case r.Intn(3) == 0:
			return literal([]int{-127, -64, -2, -1, 0, 1, 64, 127}[r.Intn(8)])
		default:
			return literal(r.Intn(20) - 9)
		}
		e.L = slices.Clone(e.L)
		for i, part := range e.L {
			n := often
			if e.Op == "if" && i == 0 {
				n = 60
			}
			e.L[i] = spice(part, n)
			if i == 1 && (e.Op == "/" || e.Op == "mod") && r.Intn(10) == 0 {
				e.L[i] = number(0)
			}
		}
		return e
	}
	return changed(p, func(e tree.Expr) tree.Expr { return spice(e, often/4) })
}

// doubled program: some flows are there twice, or more often, and each is named where another one was, now and then.
func doubled(r *rand.Rand, p flat.Program) flat.Program {
	copies := map[string][]string{}
	for i, f := range slices.Clone(p.L) {
		copies[f.Name] = []string{f.Name}
		for k := range r.Intn(3) {
			f.Name = p.L[i].Name + "c" + strconv.Itoa(k)
			p.L = append(p.L, f)
			copies[p.L[i].Name] = append(copies[p.L[i].Name], f.Name)
		}
	}
	p.L = slices.Clone(p.L)
	r.Shuffle(len(p.L), func(i, k int) { p.L[i], p.L[k] = p.L[k], p.L[i] })
	var swap func(e tree.Expr) tree.Expr
	swap = func(e tree.Expr) tree.Expr {
		if l := copies[e.S]; len(l) > 0 && r.Intn(3) == 0 {
			return name(l[r.Intn(len(l))])
		}
		e.L = slices.Clone(e.L)
		for i, part := range e.L {
			e.L[i] = swap(part)
		}
		return e
	}
	return changed(p, swap)
}

// drawnProgram of some sort.
func drawnProgram(r *rand.Rand, choices []byte) flat.Program {
	p := sample.Program(choices)
	if r.Intn(4) == 0 {
		p = sample.Bools(choices, r.Intn(6))
	}
	if r.Intn(2) == 0 {
		p = doubled(r, p)
	}
	return spiced(r, p, []int{0, 10, 30, 50, 80}[r.Intn(5)])
}

// agree holds all three to the second ways.
func agree(t testing.TB, r *rand.Rand, p flat.Program) {
	t.Helper()
	want(t, Fold, p, secondFold(t, r, p))
	want(t, Drop, p, secondDrop(p))
	want(t, Same, p, secondSame(p))
}

// keeps: what stays is as it was, but for what was to change; twice is no more, but of Same.
func keeps(t testing.TB, p flat.Program) {
	t.Helper()
	lates := latesOf(t, p)
	for word, f := range hows() {
		x := slimmed(t, f, p)
		if err := order.Check(x); err != nil {
			t.Fatalf("%s: %s%v", word, text(t, x), err)
		}
		if parts(x) > parts(p) {
			t.Fatalf("%s: %d parts are made of %s", word, parts(x), text(t, p))
		}
		if word != "Same" {
			want(t, f, x, x)
		}
		at := 0
		for name, late := range latesOf(t, x) {
			if late != lates[name] {
				t.Fatalf("%s: %s is late by %d, not %d", word, name, late, lates[name])
			}
		}
		for _, f := range x.L {
			i := slices.IndexFunc(p.L[at:], func(was flat.Flow) bool { return was.Name == f.Name && was.Kind == f.Kind })
			if i < 0 {
				t.Fatalf("%s: no %s behind %d", word, f.Name, at)
			}
			at += i + 1
		}
	}
}

// runsAlike holds each way, and all of them one behind another, to what the program does.
func runsAlike(t testing.TB, r *rand.Rand, p flat.Program, in [][]api.Value) (traps bool) {
	t.Helper()
	l := []flat.Program{slimmed(t, Fold, p), slimmed(t, Drop, p), slimmed(t, Same, p)}
	x := p
	for range 6 {
		x = slimmed(t, []how{Fold, Drop, Same}[r.Intn(3)], x)
		l = append(l, x)
	}
	for _, nilBool := range []bool{false, true} {
		nilInt := r.Intn(256) - 128
		was := ran(t, p, in, nilBool, nilInt)
		for _, x := range l {
			if is := ran(t, x, in, nilBool, nilInt); !reflect.DeepEqual(is, was) {
				t.Fatalf("%.3000sis made %.3000s%v: %v, want %v", text(t, p), text(t, x), in, is, was)
			}
		}
		traps = traps || len(was) > 0 && was[len(was)-1].Trap
	}
	return traps
}

// TestP180Second and others: by the second ways, on programs with much to be made slim in them.
func TestP180Second(t *testing.T) {
	t.Parallel()
	r := rand.New(rand.NewSource(180))
	var folded, dropped, merged, all int
	for range 4000 {
		p := drawnProgram(r, drawn(r, r.Intn(600)))
		agree(t, r, p)
		keeps(t, p)
		all += parts(p)
		folded += parts(p) - parts(slimmed(t, Fold, p))
		dropped += len(p.L) - len(slimmed(t, Drop, p).L)
		merged += len(p.L) - len(slimmed(t, Same, p).L)
	}
	if folded*10 < all || dropped < 2000 || merged < 2000 {
		t.Errorf("of %d parts %d went; %d flows were dropped, %d merged", all, folded, dropped, merged)
	}
}

// TestP182Runs: whatever goes in, the same comes out, also where it traps.
func TestP182Runs(t *testing.T) {
	t.Parallel()
	r := rand.New(rand.NewSource(182))
	traps, clean := 0, 0
	for range 4000 {
		p := drawnProgram(r, drawn(r, r.Intn(600)))
		if runsAlike(t, r, p, sample.Inputs(drawn(r, 100), p, 1+r.Intn(12))) {
			traps++
		} else {
			clean++
		}
	}
	if traps < 300 || clean < 300 {
		t.Errorf("%d trap, %d do not", traps, clean)
	}
}

func FuzzSlim(f *testing.F) {
	r := rand.New(rand.NewSource(57))
	for i := range 20 {
		f.Add(drawn(r, 300), drawn(r, 60), int64(i))
	}
	f.Fuzz(func(t *testing.T, choices, in []byte, seed int64) {
		r := rand.New(rand.NewSource(seed))
		p := drawnProgram(r, choices)
		agree(t, r, p)
		keeps(t, p)
		runsAlike(t, r, p, sample.Inputs(in, p, 8))
	})
}
