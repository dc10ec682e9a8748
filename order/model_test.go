package order

import (
	"math/rand"
	"slices"
	"strconv"
	"testing"

	"lustrum/api"
	"lustrum/flat"
	"lustrum/tree"
)

// randomly makes flat programs of the right types; some of them have cycles.
type randomly struct {
	*rand.Rand
	now   []tree.Var // what may stand where it is needed at once
	later []tree.Var // what may stand below a pre
	pres  int        // of 10 terms that may be, how many are made of the past
}

func (r *randomly) pick(l ...string) string { return l[r.Intn(len(l))] }

func (r *randomly) atom(kind int) tree.Expr {
	l := slices.DeleteFunc(slices.Clone(r.now), func(v tree.Var) bool { return v.Kind != kind })
	switch {
	case len(l) > 0 && r.Intn(5) > 0:
		return name(l[r.Intn(len(l))].Name)
	case kind == api.Int:
		return num(r.Intn(128) >> r.Intn(7))
	}
	return op(r.pick("true", "false"))
}

func (r *randomly) past(size, kind int) tree.Expr {
	now := r.now
	r.now = r.later
	e := r.term(size, kind)
	r.now = now
	return e
}

func (r *randomly) term(size, kind int) tree.Expr {
	if size == 0 || r.Intn(6) == 0 {
		return r.atom(kind)
	}
	size--
	a := func() tree.Expr { return r.term(size, kind) }
	if r.Intn(10) < r.pres {
		switch r.Intn(5) {
		case 0:
			return op("pre", r.past(size, kind))
		case 1:
			return op("fby", a(), r.past(size, kind))
		case 2:
			return op("->", a(), op("pre", r.past(size, kind)))
		}
		return op("->", a(), a())
	}
	switch {
	case r.Intn(4) == 0:
		return op("if", r.term(size, api.Bool), a(), a())
	case kind == api.Int && r.Intn(4) == 0:
		return op("neg", a())
	case kind == api.Int:
		return op(r.pick("+", "-", "*", "/", "mod"), a(), a())
	case r.Intn(4) == 0:
		return op("not", a())
	case r.Intn(2) == 0:
		return op(r.pick("and", "or", "xor", "=>", "=", "<>"), a(), a())
	}
	return op(r.pick("<", "<=", ">", ">=", "=", "<>"), r.term(size, api.Int), r.term(size, api.Int))
}

// program of at most so many flows.
func (r *randomly) program(most int) flat.Program {
	p := flat.Program{In: []tree.Var{{Name: "i", Kind: api.Int}, {Name: "b", Kind: api.Bool}}[:r.Intn(3)]}
	r.pres = 1 + r.Intn(6)
	r.now, r.later = slices.Clone(p.In), slices.Clone(p.In)
	var flows []tree.Var
	for i := range 1 + r.Intn(most) {
		v := tree.Var{Name: "f" + strconv.Itoa(i), Kind: 1 + r.Intn(2)}
		flows = append(flows, v)
		r.later = append(r.later, v)
	}
	if r.Intn(4) == 0 {
		r.now = r.later
	}
	r.Shuffle(len(flows), func(i, j int) { flows[i], flows[j] = flows[j], flows[i] })
	for _, v := range flows {
		p.L = append(p.L, flat.Flow{Name: v.Name, Kind: v.Kind, E: r.term(3, v.Kind)})
		r.now = append(r.now, v)
		if r.Intn(3) == 0 {
			p.Out = append(p.Out, v.Name)
		}
	}
	r.now = r.later
	for range r.Intn(3) {
		p.Asserts = append(p.Asserts, r.term(2, api.Bool))
	}
	for range r.Intn(3) {
		p.Checks = append(p.Checks, r.term(2, api.Bool))
	}
	r.Shuffle(len(p.L), func(i, j int) { p.L[i], p.L[j] = p.L[j], p.L[i] })
	r.Shuffle(len(p.Out), func(i, j int) { p.Out[i], p.Out[j] = p.Out[j], p.Out[i] })
	return p
}

func text(t testing.TB, p flat.Program) string {
	s, err := flat.Text(p)
	if err != nil {
		t.Fatalf("%v: %v", p, err)
	}
	return s
}

// namesIn a term, however deep; those of the past only if they are asked for.
func namesIn(e tree.Expr, past bool) []string {
	if e.Op == "name" {
		return []string{e.S}
	}
	var l []string
	for i, part := range e.L {
		if past || e.Op != "pre" && (e.Op != "fby" || i == 0) {
			l = append(l, namesIn(part, past)...)
		}
	}
	return l
}

// closed tells, of all pairs, whether the first needs the second at once, by whatever way.
func closed(p flat.Program) [][]bool {
	var need [][]bool
	for _, f := range p.L {
		var row []bool
		names := namesIn(f.E, false)
		for _, g := range p.L {
			row = append(row, slices.Contains(names, g.Name))
		}
		need = append(need, row)
	}
	for k := range need {
		for i := range need {
			for j := range need {
				need[i][j] = need[i][j] || need[i][k] && need[k][j]
			}
		}
	}
	return need
}

// permuted goes through all orders of numbers, from the least on, until one is taken.
func permuted(ahead, rest []int, take func(l []int) bool) bool {
	if len(rest) == 0 {
		return take(ahead)
	}
	for i, n := range rest {
		left := slices.Delete(slices.Clone(rest), i, i+1)
		if permuted(append(slices.Clone(ahead), n), left, take) {
			return true
		}
	}
	return false
}

// secondOrder: of all orders in which each is behind what it needs the least one, number by number; or the flow that is in a cycle.
func secondOrder(p flat.Program) (order []int, cycle int) {
	need := closed(p)
	var all []int
	for i := range need {
		if need[i][i] {
			return nil, i
		}
		all = append(all, i)
	}
	permuted(nil, all, func(l []int) bool {
		for i, a := range l {
			for _, b := range l[i:] {
				if need[a][b] {
					return false
				}
			}
		}
		order = l
		return true
	})
	return order, -1
}

// secondTerm tells how late a term is by a table of the document's rules.
func secondTerm(e tree.Expr, of func(name string) int) int {
	more := [3]int{1, 2, 2}
	arrow := [3][3]int{{0, 0, 2}, {1, 1, 2}, {2, 2, 2}}
	if e.Op == "name" {
		return of(e.S)
	}
	l := []int{0}
	for _, part := range e.L {
		l = append(l, secondTerm(part, of))
	}
	switch e.Op {
	case "pre":
		return more[l[1]]
	case "->":
		return arrow[l[1]][l[2]]
	case "fby":
		return arrow[l[1]][more[l[2]]]
	}
	return slices.Max(l)
}

func lateIn(p flat.Program, l []int) func(name string) int {
	return func(name string) int {
		for i, f := range p.L {
			if f.Name == name {
				return l[i]
			}
		}
		return 0
	}
}

// secondLate goes through all numbers that flows might have, and takes the least of those that hold, flow by flow.
func secondLate(t testing.TB, p flat.Program) []int {
	holds := func(l []int) bool {
		for i, f := range p.L {
			if secondTerm(f.E, lateIn(p, l)) != l[i] {
				return false
			}
		}
		return true
	}
	least := slices.Repeat([]int{2}, len(p.L))
	tries := 1
	for range p.L {
		tries *= 3
	}
	for try := range tries {
		l := make([]int, len(p.L))
		for i := range l {
			l[i] = try % 3
			try /= 3
		}
		if holds(l) {
			for i := range l {
				least[i] = min(least[i], l[i])
			}
		}
	}
	if !holds(least) {
		t.Fatalf("%s: the least numbers do not hold: %v", text(t, p), least)
	}
	return least
}

// secondCheck answers a place (-1: bare) and whether something is late.
func secondCheck(p flat.Program, late []int) (at int, wrong bool) {
	for i, f := range p.L {
		if late[i] > 1 || late[i] == 1 && slices.Index(p.Out, f.Name) >= 0 {
			return i, true
		}
	}
	for _, e := range append(slices.Clone(p.Asserts), p.Checks...) {
		wrong = wrong || secondTerm(e, lateIn(p, late)) > 0
	}
	return -1, wrong
}

// sameAsSecond holds the three calls against the second ways; it answers what was found.
func sameAsSecond(t testing.TB, p flat.Program) string {
	t.Helper()
	order, err := Order(p)
	late, lateErr := Late(p)
	checkErr := Check(p)
	wantOrder, cycle := secondOrder(p)
	if cycle >= 0 {
		for _, err := range []error{err, lateErr, checkErr} {
			if !isFault(err, cycle, api.ErrCycle) || order != nil || late != nil {
				t.Fatalf("%s%v, %v, %#v, want a cycle at %d", text(t, p), order, late, err, cycle)
			}
		}
		return "cycle"
	}
	if err != nil || !slices.Equal(order, wantOrder) {
		t.Fatalf("%s%v, %v, want %v", text(t, p), order, err, wantOrder)
	}
	wantLate := secondLate(t, p)
	if lateErr != nil || !slices.Equal(late, wantLate) {
		t.Fatalf("%s%v, %v, want %v", text(t, p), late, lateErr, wantLate)
	}
	at, wrong := secondCheck(p, wantLate)
	if wrong && !isFault(checkErr, at, api.ErrFirst) || !wrong && checkErr != nil {
		t.Fatalf("%s%#v, want %v at %d", text(t, p), checkErr, wrong, at)
	}
	switch {
	case wrong && at >= 0:
		return "late"
	case wrong:
		return "late in an assert or a check"
	}
	return "right"
}

func TestP50P51P52Second(t *testing.T) {
	r := &randomly{Rand: rand.New(rand.NewSource(50))}
	found := map[string]int{}
	for range 6000 {
		found[sameAsSecond(t, r.program(6))]++
	}
	for _, s := range []string{"cycle", "late", "late in an assert or a check", "right"} {
		if found[s] < 400 {
			t.Errorf("%s: only %d times", s, found[s])
		}
	}
}

func FuzzOrder(f *testing.F) {
	f.Add("node n(i: int) returns (x: int); var y: int; let x = 0 -> y; y = pre x + i; check true -> pre (x > y); tel")
	f.Add("node a(u: int) returns (v: int); let v = 0 fby u; tel node n(i: int) returns (x: int); var y: int; let x = a(y); y = a(i) -> x; tel")
	f.Fuzz(func(t *testing.T, s string) {
		l, err := tree.Read(s)
		if err != nil {
			return
		}
		for _, n := range l {
			if p, err := flat.Make(l, n.Name); err == nil && len(p.L) < 7 {
				sameAsSecond(t, p)
			}
		}
	})
}
