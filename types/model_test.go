package types

import (
	"errors"
	"math/rand"
	"slices"
	"strings"
	"testing"

	"lustrum/api"
	"lustrum/tree"
)

// readings of operators, each written out for the types that it may have: b is a bool, i an int.
const readings = `int>i true>b false>b not.b>b neg.i>i pre.b>b pre.i>i
and.bb>b or.bb>b xor.bb>b =>.bb>b +.ii>i -.ii>i *.ii>i /.ii>i mod.ii>i
<.ii>b <=.ii>b >.ii>b >=.ii>b =.bb>b =.ii>b <>.bb>b <>.ii>b
->.bb>b ->.ii>i fby.bb>b fby.ii>i if.bbb>b if.bii>i`

// model judges a second way: a term becomes a list of steps, which are done on a stack of texts.
type model struct {
	gives map[string]string // by operator and types of parts: type of the value
	nodes map[string]tree.Node
	names map[string]string
}

func newModel() *model {
	m := &model{gives: map[string]string{}, nodes: map[string]tree.Node{}}
	for _, r := range strings.Fields(readings) {
		cut := strings.LastIndex(r, ">")
		m.gives[r[:cut]] = r[cut+1:]
	}
	return m
}

func letters(l []tree.Var) string {
	s := ""
	for _, v := range l {
		s += "?bi"[v.Kind : v.Kind+1]
	}
	return s
}

// step of a term: ask for a call's node, or do an operator behind its parts.
type modelStep struct {
	e   tree.Expr
	ask bool
}

func steps(e tree.Expr) []modelStep {
	var l []modelStep
	if e.Op == "call" {
		l = append(l, modelStep{e, true})
	}
	for _, p := range e.L {
		l = append(l, steps(p)...)
	}
	return append(l, modelStep{e, false})
}

// types of a term's values, as letters.
func (m *model) types(e tree.Expr) (string, error) {
	var stack []string
	all := steps(e)
	for i, s := range all {
		if s.ask || s.e.Op == "call" {
			if _, ok := m.nodes[s.e.S]; !ok {
				return "", api.ErrName
			}
		}
		if s.ask {
			continue
		}
		from := len(stack) - len(s.e.L)
		value, err := m.value(s.e, strings.Join(stack[from:], ""))
		if err != nil {
			return "", err
		}
		if len(value) > 1 && i < len(all)-1 {
			return "", api.ErrType
		}
		stack = append(stack[:from], value)
	}
	return stack[0], nil
}

func (m *model) value(e tree.Expr, parts string) (string, error) {
	value, ok := "", false
	switch e.Op {
	case "name":
		if value, ok = m.names[e.S]; !ok {
			return "", api.ErrName
		}
	case "call":
		n := m.nodes[e.S]
		value, ok = letters(n.Out), letters(n.In) == parts
	default:
		key := e.Op
		if parts != "" {
			key += "." + parts
		}
		value, ok = m.gives[key]
	}
	if !ok {
		return "", api.ErrType
	}
	return value, nil
}

// enter a node: its names count; it answers whether one is there twice.
func (m *model) enter(n tree.Node) bool {
	m.names = map[string]string{}
	all := slices.Concat(n.In, n.Out, n.Own)
	for _, v := range all {
		m.names[v.Name] = letters([]tree.Var{v})
	}
	return len(m.names) < len(all)
}

func (m *model) judgeNode(n tree.Node) error {
	_, known := m.nodes[n.Name]
	if m.enter(n) || known {
		return api.ErrName
	}
	var free, set []string
	for _, v := range slices.Concat(n.Out, n.Own) {
		free = append(free, v.Name)
	}
	for _, q := range n.L {
		wanted := "b"
		if q.Kind == "set" {
			wanted = ""
		}
		for _, name := range q.Names {
			if !slices.Contains(free, name) || slices.Contains(set, name) {
				return api.ErrName
			}
			set = append(set, name)
			wanted += m.names[name]
		}
		got, err := m.types(q.E)
		if err != nil {
			return err
		}
		if got != wanted {
			return api.ErrType
		}
	}
	if len(set) < len(free) {
		return api.ErrShape
	}
	m.nodes[n.Name] = n
	return nil
}

// judge a program that tree.Text tells.
func judge(l []tree.Node) (int, error) {
	m := newModel()
	for i, n := range l {
		if err := m.judgeNode(n); err != nil {
			return i, err
		}
	}
	return 0, nil
}

// maker makes programs that are right, but for one thing in so many.
type maker struct {
	*rand.Rand
	ahead []tree.Node
	names []tree.Var
	slip  int // 0: never
}

func (m *maker) slips() bool { return m.slip > 0 && m.Intn(m.slip) == 0 }

func (m *maker) kind() int { return 1 + m.Intn(2) }

func (m *maker) pick(l ...string) string { return l[m.Intn(len(l))] }

func (m *maker) atom(kind int) tree.Expr {
	var own []string
	for _, v := range m.names {
		if v.Kind == kind {
			own = append(own, v.Name)
		}
	}
	switch {
	case m.slips():
		return tree.Expr{Op: "name", S: "zz"}
	case len(own) > 0 && m.Intn(3) > 0:
		return tree.Expr{Op: "name", S: m.pick(own...)}
	case kind == api.Int:
		return tree.Expr{Op: "int", N: m.Intn(128)}
	}
	return tree.Expr{Op: m.pick("true", "false")}
}

func (m *maker) parts(size int, kinds ...int) []tree.Expr {
	var l []tree.Expr
	for _, k := range kinds {
		l = append(l, m.term(size, k))
	}
	return l
}

func (m *maker) term(size, kind int) tree.Expr {
	if m.slips() {
		kind = m.kind()
	}
	if size == 0 || m.Intn(8) == 0 {
		return m.atom(kind)
	}
	size--
	switch m.Intn(6) {
	case 0:
		if e, ok := m.call(size, kind); ok {
			return e
		}
		return m.atom(kind)
	case 1:
		return tree.Expr{Op: "if", L: m.parts(size, api.Bool, kind, kind)}
	case 2:
		return tree.Expr{Op: m.pick("->", "fby"), L: m.parts(size, kind, kind)}
	case 3:
		return tree.Expr{Op: "pre", L: m.parts(size, kind)}
	}
	if kind == api.Int {
		if m.Intn(4) == 0 {
			return tree.Expr{Op: "neg", L: m.parts(size, kind)}
		}
		return tree.Expr{Op: m.pick("+", "-", "*", "/", "mod"), L: m.parts(size, kind, kind)}
	}
	switch m.Intn(4) {
	case 0:
		return tree.Expr{Op: "not", L: m.parts(size, kind)}
	case 1:
		return tree.Expr{Op: m.pick("and", "or", "xor", "=>"), L: m.parts(size, kind, kind)}
	case 2:
		return tree.Expr{Op: m.pick("<", "<=", ">", ">="), L: m.parts(size, api.Int, api.Int)}
	}
	k := m.kind()
	return tree.Expr{Op: m.pick("=", "<>"), L: m.parts(size, k, k)}
}

// call of a node ahead whose values have these types.
func (m *maker) call(size int, kinds ...int) (tree.Expr, bool) {
	for _, i := range m.Perm(len(m.ahead)) {
		n := m.ahead[i]
		if !slices.Equal(kindsOf(n.Out), kinds) && !m.slips() {
			continue
		}
		e := tree.Expr{Op: "call", S: n.Name, L: m.parts(size, kindsOf(n.In)...)}
		if m.slips() {
			e.S = m.pick("zz", "a", "b", "x", "y")
		}
		if m.slips() {
			e.L = append(e.L, m.atom(m.kind()))
		}
		if m.slips() && len(e.L) > 0 {
			e.L = e.L[1:]
		}
		return e, true
	}
	return tree.Expr{}, false
}

func (m *maker) vars(least int, pool *[]string) []tree.Var {
	var l []tree.Var
	for range least + m.Intn(3) {
		name := (*pool)[0]
		*pool = (*pool)[1:]
		if m.slips() {
			name = "x"
		}
		l = append(l, tree.Var{Name: name, Kind: m.kind()})
	}
	return l
}

func (m *maker) equations(open []tree.Var) []tree.Equation {
	var l []tree.Equation
	for len(open) > 0 {
		if m.Intn(3) == 0 {
			l = append(l, tree.Equation{Kind: m.pick("assert", "check"), E: m.term(3, api.Bool)})
		}
		n := 1 + m.Intn(min(3, len(open)))
		set := open[:n]
		open = open[n:]
		if e, ok := m.call(2, kindsOf(set)...); ok && n > 1 {
			l = append(l, tree.Equation{Kind: "set", Names: namesOf(set), E: e})
			continue
		}
		for _, v := range set {
			if !m.slips() {
				l = append(l, tree.Equation{Kind: "set", Names: []string{v.Name}, E: m.term(3, v.Kind)})
			}
			if len(l) > 0 && m.slips() {
				l = append(l, l[m.Intn(len(l))])
			}
		}
	}
	return l
}

func namesOf(l []tree.Var) []string {
	var names []string
	for _, v := range l {
		names = append(names, v.Name)
	}
	return names
}

func (m *maker) program() []tree.Node {
	m.ahead = nil
	for _, name := range []string{"a", "b", "c", "d"}[:1+m.Intn(4)] {
		pool := []string{"u", "v", "w", "x", "y", "z", "a", "b", "c"}
		m.Shuffle(len(pool), func(i, j int) { pool[i], pool[j] = pool[j], pool[i] })
		if m.slips() {
			name = "a"
		}
		n := tree.Node{Name: name, In: m.vars(0, &pool), Out: m.vars(1, &pool), Own: m.vars(0, &pool)}
		m.names = slices.Concat(n.In, n.Out, n.Own)
		open := slices.Concat(n.Out, n.Own)
		m.Shuffle(len(open), func(i, j int) { open[i], open[j] = open[j], open[i] })
		n.L = m.equations(open)
		m.ahead = append(m.ahead, n)
	}
	return m.ahead
}

// sameAnswer holds Check against the model; it answers the error.
func sameAnswer(t *testing.T, l []tree.Node) error {
	t.Helper()
	s, err := tree.Text(l)
	got := Check(l)
	if err != nil {
		if got != err {
			t.Fatalf("%v: %#v, want %v", l, got, err)
		}
		return err
	}
	at, want := judge(l)
	if want == nil {
		if got != nil {
			t.Fatalf("%s%#v, but it is right", s, got)
		}
		return nil
	}
	if f, ok := got.(*api.Fault); !ok || f.At != at || f.Err != want {
		t.Fatalf("%s%#v, want %v at %d", s, got, want, at)
	}
	return want
}

func TestP30P31Model(t *testing.T) {
	seen := map[error]int{}
	for _, slip := range []int{0, 30, 100, 300} {
		m := &maker{Rand: rand.New(rand.NewSource(int64(slip))), slip: slip}
		for range 4000 {
			err := sameAnswer(t, m.program())
			if slip == 0 && err != nil && err != api.ErrShape {
				t.Fatal(err)
			}
			seen[err]++
		}
	}
	for _, err := range []error{nil, api.ErrName, api.ErrType, api.ErrShape} {
		if seen[err] < 300 {
			t.Errorf("%v: only %d programs", err, seen[err])
		}
	}
}

// each goes through a term and all that is in it.
func each(e tree.Expr, see func(tree.Expr)) {
	see(e)
	for _, p := range e.L {
		each(p, see)
	}
}

func TestP32P33EachTerm(t *testing.T) {
	m := &maker{Rand: rand.New(rand.NewSource(33))}
	right := 0
	for range 300 {
		l := m.program()
		if Check(l) != nil {
			continue
		}
		right++
		second := newModel()
		for _, n := range l {
			second.enter(n)
			for _, q := range n.L {
				each(q.E, func(e tree.Expr) {
					kind, err := Of(l, n.Name, e)
					if want, _ := second.types(e); len(want) > 1 {
						if kind != 0 || err != api.ErrType {
							t.Fatalf("%v: %d, %v of a term of more values", e, kind, err)
						}
					} else if err != nil || kind != strings.Index("?bi", want) {
						t.Fatalf("%v: %d, %v, want %s", e, kind, err, want)
					}
				})
			}
			second.nodes[n.Name] = n
		}
	}
	if right < 200 {
		t.Errorf("only %d programs were right", right)
	}
}

func TestP32Model(t *testing.T) {
	m := &maker{Rand: rand.New(rand.NewSource(32))}
	seen := map[error]int{}
	for range 2000 {
		m.slip = 0
		l := m.program()
		if Check(l) != nil {
			continue
		}
		at := m.Intn(len(l))
		second := newModel()
		for _, n := range l[:at] {
			second.nodes[n.Name] = n
		}
		second.enter(l[at])
		m.slip, m.names = 20, slices.Concat(l[at].In, l[at].Out, l[at].Own)
		e := m.term(4, m.kind())
		want, wrong := second.types(e)
		if len(want) > 1 {
			want, wrong = "", api.ErrType
		}
		kind, err := Of(l, l[at].Name, e)
		if errors.Is(err, api.ErrShape) {
			continue // too deep to be told
		}
		if err != wrong || wrong == nil && kind != strings.Index("?bi", want) || wrong != nil && kind != 0 {
			t.Fatalf("%v: %d, %v, want %s, %v", e, kind, err, want, wrong)
		}
		seen[err]++
	}
	for _, err := range []error{nil, api.ErrName, api.ErrType} {
		if seen[err] < 100 {
			t.Errorf("%v: only %d terms", err, seen[err])
		}
	}
}

func FuzzCheck(f *testing.F) {
	f.Add(inside(rest))
	f.Add(inside("(x, y) = two(one(u), none()); u = pre x; v = j = (i < 3);"))
	f.Add(inside("x = (1 + true) + zz;"))
	f.Fuzz(func(t *testing.T, s string) {
		if l, err := tree.Read(s); err == nil {
			sameAnswer(t, l)
		}
	})
}
