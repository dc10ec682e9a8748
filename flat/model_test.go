package flat

import (
	"math/rand"
	"reflect"
	"slices"
	"strconv"
	"testing"

	"lustrum/api"
	"lustrum/tree"
	"lustrum/types"
)

// second makes flat a second way, by the document's words: over and over the first call in a term whose arguments have none is put in, till there is none.
type second struct {
	nodes []tree.Node
	calls int
}

func (s *second) node(name string) tree.Node {
	for _, n := range s.nodes {
		if n.Name == name {
			return n
		}
	}
	return tree.Node{}
}

func (s *second) program(node string) Program {
	n := s.node(node)
	p := s.body(n, "")
	p.In = append(p.In, n.In...)
	for _, v := range n.Out {
		p.Out = append(p.Out, v.Name)
	}
	return p
}

func join(a, b Program) Program {
	return Program{L: slices.Concat(a.L, b.L), Asserts: slices.Concat(a.Asserts, b.Asserts), Checks: slices.Concat(a.Checks, b.Checks)}
}

func (s *second) body(n tree.Node, ahead string) Program {
	var p Program
	for _, q := range n.L {
		e := renamed(q.E, ahead)
		var outs []string
		for {
			call := innermost(&e)
			if call == nil {
				break
			}
			var part Program
			part, outs = s.putIn(*call)
			p = join(p, part)
			*call = tree.Expr{Op: "name", S: outs[0]}
		}
		switch {
		case q.Kind == "assert":
			p.Asserts = append(p.Asserts, e)
		case q.Kind == "check":
			p.Checks = append(p.Checks, e)
		case len(q.Names) == 1:
			p.L = append(p.L, Flow{ahead + q.Names[0], kindIn(n, q.Names[0]), e})
		default:
			for i, x := range q.Names {
				p.L = append(p.L, Flow{ahead + x, kindIn(n, x), tree.Expr{Op: "name", S: outs[i]}})
			}
		}
	}
	return p
}

func (s *second) putIn(call tree.Expr) (Program, []string) {
	n, ahead := s.node(call.S), strconv.Itoa(s.calls)+"."
	s.calls++
	var p Program
	for i, v := range n.In {
		p.L = append(p.L, Flow{ahead + v.Name, v.Kind, call.L[i]})
	}
	var outs []string
	for _, v := range n.Out {
		outs = append(outs, ahead+v.Name)
	}
	return join(p, s.body(n, ahead)), outs
}

func kindIn(n tree.Node, x string) int {
	for _, v := range slices.Concat(n.In, n.Out, n.Own) {
		if v.Name == x {
			return v.Kind
		}
	}
	return 0
}

// renamed copies a term; its names get a text ahead.
func renamed(e tree.Expr, ahead string) tree.Expr {
	if e.Op == "name" {
		e.S = ahead + e.S
	}
	var l []tree.Expr
	for _, part := range e.L {
		l = append(l, renamed(part, ahead))
	}
	e.L = l
	return e
}

// innermost call of a term, and of those the first one.
func innermost(e *tree.Expr) *tree.Expr {
	for i := range e.L {
		if call := innermost(&e.L[i]); call != nil {
			return call
		}
	}
	if e.Op == "call" {
		return e
	}
	return nil
}

// randomly makes programs that are right. A name may need at once only inputs and names of less rank, so that there are no cycles.
type randomly struct {
	*rand.Rand
	ahead []tree.Node
	now   []tree.Var // what may be needed at once
	later []tree.Var // what may be needed below a pre
}

func (r *randomly) pick(l ...string) string { return l[r.Intn(len(l))] }

func (r *randomly) kind() int { return 1 + r.Intn(2) }

func (r *randomly) atom(kind int) tree.Expr {
	l := slices.DeleteFunc(slices.Clone(r.now), func(v tree.Var) bool { return v.Kind != kind })
	switch {
	case len(l) > 0 && r.Intn(4) > 0:
		return name(l[r.Intn(len(l))].Name)
	case kind == api.Int:
		return num(r.Intn(128) >> r.Intn(7))
	}
	return op(r.pick("true", "false"))
}

// past makes a term that stands below a pre.
func (r *randomly) past(size, kind int) tree.Expr {
	now := r.now
	r.now = r.later
	e := r.term(size, kind)
	r.now = now
	return e
}

func (r *randomly) terms(size int, kinds ...int) []tree.Expr {
	var l []tree.Expr
	for _, k := range kinds {
		l = append(l, r.term(size, k))
	}
	return l
}

func (r *randomly) term(size, kind int) tree.Expr {
	if size == 0 || r.Intn(8) == 0 {
		return r.atom(kind)
	}
	size--
	switch r.Intn(8) {
	case 0, 1, 2:
		if e, ok := r.call(size, kind); ok {
			return e
		}
	case 3:
		return op("if", r.terms(size, api.Bool, kind, kind)...)
	case 4:
		return op("->", r.terms(size, kind, kind)...)
	case 5:
		return op("fby", r.term(size, kind), r.past(size, kind))
	case 6:
		return op("pre", r.past(size, kind))
	}
	if kind == api.Int {
		return op(r.pick("+", "-", "*", "/", "mod"), r.terms(size, kind, kind)...)
	}
	switch r.Intn(3) {
	case 0:
		return op("not", r.term(size, kind))
	case 1:
		return op(r.pick("and", "or", "xor", "=>"), r.terms(size, kind, kind)...)
	}
	return op(r.pick("<", "<=", ">", ">=", "=", "<>"), r.terms(size, api.Int, api.Int)...)
}

// call of a node ahead whose values have these types.
func (r *randomly) call(size int, kinds ...int) (tree.Expr, bool) {
	for _, i := range r.Perm(len(r.ahead)) {
		n := r.ahead[i]
		if slices.Equal(kindsIn(n.Out), kinds) {
			return tree.Expr{Op: "call", S: n.Name, L: r.terms(size, kindsIn(n.In)...)}, true
		}
	}
	return tree.Expr{}, false
}

func kindsIn(l []tree.Var) []int {
	var kinds []int
	for _, v := range l {
		kinds = append(kinds, v.Kind)
	}
	return kinds
}

func (r *randomly) vars(n int, pool *[]string) []tree.Var {
	var l []tree.Var
	for range n {
		l = append(l, tree.Var{Name: (*pool)[0], Kind: r.kind()})
		*pool = (*pool)[1:]
	}
	return l
}

func (r *randomly) node(x string) tree.Node {
	pool := []string{"u", "v", "w", "x", "y", "z", "a", "b", "c"}
	r.Shuffle(len(pool), func(i, j int) { pool[i], pool[j] = pool[j], pool[i] })
	n := tree.Node{Name: x, In: r.vars(r.Intn(3), &pool), Out: r.vars(1+r.Intn(2)*r.Intn(3), &pool), Own: r.vars(r.Intn(3), &pool)}
	r.now, r.later = n.In, slices.Concat(n.In, n.Out, n.Own)
	open := slices.Concat(n.Out, n.Own)
	r.Shuffle(len(open), func(i, j int) { open[i], open[j] = open[j], open[i] })
	for len(open) > 0 {
		if r.Intn(4) == 0 {
			n.L = append(n.L, tree.Equation{Kind: r.pick("assert", "check"), E: r.term(3, api.Bool)})
		}
		set := open[:1+r.Intn(min(3, len(open)))]
		e, ok := r.call(2, kindsIn(set)...)
		if !ok || len(set) == 1 {
			set = open[:1]
			e = r.term(3, set[0].Kind)
		}
		q := tree.Equation{Kind: "set", E: e}
		for _, v := range set {
			q.Names = append(q.Names, v.Name)
		}
		n.L = append(n.L, q)
		r.now = slices.Concat(r.now, set)
		open = open[len(set):]
	}
	r.Shuffle(len(n.L), func(i, j int) { n.L[i], n.L[j] = n.L[j], n.L[i] })
	return n
}

func (r *randomly) program() []tree.Node {
	r.ahead = nil
	for _, x := range []string{"a", "b", "c", "d", "e", "f", "g"}[:2+r.Intn(6)] {
		r.ahead = append(r.ahead, r.node(x))
	}
	return r.ahead
}

// alike: a nil list and an empty one are one thing.
func alike(p, q Program) bool {
	terms := func(l []tree.Expr) []tree.Expr {
		var same []tree.Expr
		for _, e := range l {
			same = append(same, renamed(e, ""))
		}
		return same
	}
	whole := func(p Program) Program {
		s := Program{In: append([]tree.Var(nil), p.In...), Out: append([]string(nil), p.Out...), Asserts: terms(p.Asserts), Checks: terms(p.Checks)}
		for _, f := range p.L {
			f.E = renamed(f.E, "")
			s.L = append(s.L, f)
		}
		return s
	}
	return reflect.DeepEqual(whole(p), whole(q))
}

// sameAsSecond holds what is made of a node against the second way; it answers whether it was within the bounds.
func sameAsSecond(t *testing.T, l []tree.Node, node string) bool {
	t.Helper()
	p, err := Make(l, node)
	want := (&second{nodes: l}).program(node)
	text, _ := tree.Text(l)
	if len(want.L) > api.MaxFlat || sizeOf(want) > api.MaxTerms {
		if err != api.ErrBound || !reflect.DeepEqual(p, Program{}) {
			t.Fatalf("%s%s: %v, want %v", text, node, err, api.ErrBound)
		}
		return false
	}
	if err != nil || !alike(p, want) {
		t.Fatalf("%s%s: %v\n%v\nwant\n%v", text, node, err, p, want)
	}
	if found := shared(p); found != nil {
		t.Fatalf("%s%s: shared: %v", text, node, found)
	}
	if err := Check(p); err != nil {
		t.Fatalf("%s%s: %v", text, node, err)
	}
	return true
}

func TestP40P41Second(t *testing.T) {
	r := &randomly{Rand: rand.New(rand.NewSource(41))}
	within, beyond := 0, 0
	for range 1500 {
		l := r.program()
		if types.Check(l) != nil {
			continue // too long, or too deep
		}
		for _, n := range l {
			if sameAsSecond(t, l, n.Name) {
				within++
			} else {
				beyond++
			}
		}
	}
	if within < 3000 || beyond < 20 {
		t.Errorf("only %d programs within the bounds, %d beyond", within, beyond)
	}
}

// TestP43AsTree: terms stand in flat programs as they stand in programs.
func TestP43AsTree(t *testing.T) {
	r := &randomly{Rand: rand.New(rand.NewSource(43))}
	told := 0
	for range 1500 {
		r.ahead = nil
		n := r.node("n")
		text, err := tree.Text([]tree.Node{n})
		if err != nil {
			continue
		}
		told++
		want := ""
		for _, v := range n.In {
			want += "in " + v.Name + " " + [3]string{"", "bool", "int"}[v.Kind] + "\n"
		}
		var ends [3]string
		for _, line := range lines(text) {
			switch {
			case len(line) < 2 || line[:2] != "  ":
			case len(line) > 8 && line[2:9] == "assert ":
				ends[1] += line[2:len(line)-1] + "\n"
			case len(line) > 7 && line[2:8] == "check ":
				ends[2] += line[2:len(line)-1] + "\n"
			default:
				want += line[2:3] + " " + [3]string{"", "bool", "int"}[kindIn(n, line[2:3])] + line[3:len(line)-1] + "\n"
			}
		}
		for _, v := range n.Out {
			ends[0] += "out " + v.Name + "\n"
		}
		want += ends[0] + ends[1] + ends[2]
		p, err := Make([]tree.Node{n}, "n")
		if err != nil {
			t.Fatal(err)
		}
		if s, err := Text(p); s != want || err != nil {
			t.Fatalf("%s\n%s, %v, want\n%s", text, s, err, want)
		}
	}
	if told < 1000 {
		t.Errorf("only %d programs", told)
	}
}

func lines(s string) []string {
	var l []string
	from := 0
	for i := range len(s) {
		if s[i] == '\n' {
			l = append(l, s[from:i])
			from = i + 1
		}
	}
	return l
}

func FuzzMake(f *testing.F) {
	f.Add(ahead + "node m(i: int) returns (o: int); let o = one(one(i) - one(2)) * one(3); tel")
	f.Add(ahead + "node m(i: bool) returns (o: bool); let check i; assert sees(i); o = sees(true); check sees(false) => o; assert o; tel")
	f.Add(flows(1))
	f.Fuzz(func(t *testing.T, s string) {
		l, err := tree.Read(s)
		if err != nil || types.Check(l) != nil || len(l) > 4 {
			return
		}
		for _, n := range l {
			if p, err := Make(l, n.Name); err == nil {
				want := (&second{nodes: l}).program(n.Name)
				if !alike(p, want) {
					t.Fatalf("%s", s)
				}
			}
		}
	})
}
