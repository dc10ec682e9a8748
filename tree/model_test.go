package tree

import (
	"reflect"
	"slices"
	"strings"
	"testing"

	"lustrum/api"
	"lustrum/lex"
)

// grammar, as P22 has it: a rule a line, `|` between its ways. NAME, INT and END are kinds of tokens, all else that has no rule is a token's text.
const grammar = `program : END | nodes END
nodes : node | nodes node
node : ins outs body | ins outs own body
ins : node NAME ( ) | node NAME ( vars )
outs : returns ( vars ) ;
own : var vars ;
body : let tel | let equations tel
vars : one | vars ; one
one : NAME : bool | NAME : int
equations : equation | equations equation
equation : NAME = term ; | ( names ) = term ; | assert term ; | check term ;
names : NAME , NAME | names , NAME
term : if term then term else term | arrow
arrow : or_ | or_ -> term | or_ fby term
or_ : and_ | or_ or and_ | or_ xor and_
and_ : not_ | and_ and not_
not_ : not not_ | comparison
comparison : sum | sum = sum | sum <> sum | sum < sum | sum <= sum | sum > sum | sum >= sum | sum => sum
sum : product | sum + product | sum - product
product : unary | product * unary | product / unary | product mod unary
unary : - unary | pre unary | atom
atom : INT | true | false | NAME | NAME ( ) | NAME ( terms ) | ( term )
terms : term | terms , term`

// item: a way of a rule, gone so far, begun ahead of a token.
type item struct{ rule, way, dot, from int }

// model reads tokens a second way: by all ways at once, so that a token is refused just where no way goes on.
type model struct {
	heads []string
	ways  [][][]string
	rules map[string]int
	sets  [][]item
}

func newModel() *model {
	m := &model{rules: map[string]int{}}
	for i, line := range strings.Split(grammar, "\n") {
		name, rest, _ := strings.Cut(line, " : ")
		// The rule `node` and the word `node` are two things: only `nodes` has the rule.
		m.heads = append(m.heads, name)
		m.rules[name] = i
		var ways [][]string
		for _, w := range strings.Split(rest, " | ") {
			ways = append(ways, strings.Fields(w))
		}
		m.ways = append(m.ways, ways)
	}
	m.close([]item{{0, 0, 0, 0}, {0, 1, 0, 0}})
	return m
}

// ruleOf a part of a way, or -1 if it is a token.
func (m *model) ruleOf(head int, part string) int {
	if r, ok := m.rules[part]; ok && (part != "node" || m.heads[head] == "nodes") {
		return r
	}
	return -1
}

func (m *model) next(i item) string {
	if w := m.ways[i.rule][i.way]; i.dot < len(w) {
		return w[i.dot]
	}
	return ""
}

// close lays down the next set: what is in it, and all that this begins and ends. No way is without a part.
func (m *model) close(set []item) {
	at := len(m.sets)
	seen := map[item]bool{}
	for _, i := range set {
		seen[i] = true
	}
	add := func(i item) {
		if !seen[i] {
			seen[i] = true
			set = append(set, i)
		}
	}
	for n := 0; n < len(set); n++ {
		i := set[n]
		part := m.next(i)
		if part == "" {
			for _, j := range m.sets[i.from] {
				if p := m.next(j); p != "" && m.ruleOf(j.rule, p) == i.rule {
					j.dot++
					add(j)
				}
			}
		} else if r := m.ruleOf(i.rule, part); r >= 0 {
			for w := range m.ways[r] {
				add(item{r, w, 0, at})
			}
		}
	}
	m.sets = append(m.sets, set)
}

func kindOf(t lex.Token) string {
	switch t.Kind {
	case "name":
		return "NAME"
	case "int":
		return "INT"
	case "end":
		return "END"
	}
	return t.Text
}

// step tells whether a token can stand there, and goes on with it if it can.
func (m *model) step(t lex.Token) bool {
	var set []item
	for _, i := range m.sets[len(m.sets)-1] {
		if p := m.next(i); p == kindOf(t) && m.ruleOf(i.rule, p) < 0 {
			i.dot++
			set = append(set, i)
		}
	}
	if len(set) == 0 {
		return false
	}
	m.close(set)
	return true
}

func (m *model) back() { m.sets = m.sets[:len(m.sets)-1] }

// holds a program that lex reads, and that is within the bounds, against the model.
func (m *model) holds(t *testing.T, s string) {
	t.Helper()
	tokens, err := lex.Lex(s)
	if err != nil {
		t.Fatalf("%q: %v", s, err)
	}
	m.sets = m.sets[:1]
	for _, x := range tokens {
		if !m.step(x) {
			wantFault(t, s, x.At, api.ErrText)
			return
		}
	}
	again(t, s)
}

// again holds P25 for a short program that can be read: what Text writes of it is read as the same. Only by brackets around a `-` behind a `-` could that be too deep, where the program itself was not.
func again(t *testing.T, s string) {
	t.Helper()
	l, err := Read(s)
	if err != nil {
		t.Errorf("%q: %v", s, err)
		return
	}
	told, err := Text(l)
	if err == api.ErrShape && told == "" && hasTwoSigns(l) {
		return
	}
	if err != nil {
		t.Errorf("%q: %q, %v", s, told, err)
		return
	}
	if back, err := Read(told); err != nil || !reflect.DeepEqual(back, l) {
		t.Errorf("%q: %q: %v, %v", s, told, back, err)
	}
}

func hasTwoSigns(l []Node) bool {
	var look func(e Expr) bool
	look = func(e Expr) bool {
		return e.Op == "neg" && e.L[0].Op == "neg" || slices.ContainsFunc(e.L, look)
	}
	for _, n := range l {
		for _, q := range n.L {
			if look(q.E) {
				return true
			}
		}
	}
	return false
}

// follow goes on from a program's beginning by each token there is, and from those that can stand there by more.
func (m *model) follow(t *testing.T, s string, all []string, left int) {
	for _, x := range all {
		if t.Failed() {
			return
		}
		on := s + " " + x
		tokens, _ := lex.Lex(on)
		if !m.step(tokens[len(tokens)-2]) {
			wantFault(t, on, len(s)+1, api.ErrText)
			continue
		}
		if m.step(tokens[len(tokens)-1]) {
			m.back()
			again(t, on)
		} else {
			wantFault(t, on, len(on), api.ErrText)
		}
		if left > 1 {
			m.follow(t, on, all, left-1)
		}
		m.back()
	}
}

var everyToken = strings.Fields("and assert bool check else false fby if int let mod node not or pre returns tel then true var xor <> <= >= => -> ( ) , ; : = < > + - * / x f 0 127")

// termToken stands for all of its kind.
var termToken = strings.Fields("1 x true ( ) , ; if then else -> or and not = + * - pre")

func TestP22Beginnings(t *testing.T) {
	const start = "node a() returns (x: int);"
	for s, deep := range map[string]int{
		"":                          12,
		"node a() returns (x: int":  6,
		start + "var y: int":        4,
		start + "let":               3,
		start + "let tel":           10,
		start + "let x":             3,
		start + "let (x, y":         3,
		start + "let x = 1":         3,
		start + "let check f(":      2,
		start + "let check not 1 <": 2,
	} {
		newModel().from(t, s, everyToken, deep)
	}
	newModel().from(t, start+"let x =", termToken, 5)
	newModel().from(t, start+"let x = if x then f(1", termToken, 4)
}

// from follows a beginning that can be one.
func (m *model) from(t *testing.T, s string, all []string, deep int) {
	t.Helper()
	tokens, _ := lex.Lex(s)
	for _, x := range tokens[:len(tokens)-1] {
		if !m.step(x) {
			t.Fatalf("%q", s)
		}
	}
	m.follow(t, s, all, deep)
}
