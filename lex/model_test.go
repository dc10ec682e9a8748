package lex

import (
	"reflect"
	"regexp"
	"strings"
	"testing"

	"lustrum/api"
)

// model reads a program a second way, by patterns; at is the byte of a fault, or -1.
type model struct{ gap, token *regexp.Regexp }

func newModel() model {
	quoted := []string{}
	for _, o := range strings.Fields(ops) {
		quoted = append(quoted, regexp.QuoteMeta(o))
	}
	return model{
		regexp.MustCompile(`^(?:[ \n]|--[^\n]*)*`),
		regexp.MustCompile(`^(?:([a-z][a-z0-9_]*)|([0-9]+)|(` + strings.Join(quoted, "|") + `))`),
	}
}

var smallInt = regexp.MustCompile(`^(?:[0-9]|[1-9][0-9]|1[01][0-9]|12[0-7])$`)

func (m model) lex(s string) (l []Token, at int) {
	for {
		at += len(m.gap.FindString(s[at:]))
		if at == len(s) {
			return append(l, Token{"end", "", at}), -1
		}
		g := m.token.FindStringSubmatch(s[at:])
		switch {
		case g == nil, len(g[1]) > api.MaxName, g[2] != "" && !smallInt.MatchString(g[2]):
			return nil, at
		case g[1] != "" && strings.Contains(" "+words+" ", " "+g[1]+" "):
			l = append(l, Token{"word", g[1], at})
		case g[1] != "":
			l = append(l, Token{"name", g[1], at})
		case g[2] != "":
			l = append(l, Token{"int", g[2], at})
		default:
			l = append(l, Token{"op", g[3], at})
		}
		at += len(g[0])
	}
}

// holds a program against the model, and P13 for what it tells.
func (m model) holds(t *testing.T, s string) {
	t.Helper()
	want, at := m.lex(s)
	if at >= 0 {
		wantFault(t, s, at)
		return
	}
	l, err := Lex(s)
	if err != nil || !reflect.DeepEqual(l, want) {
		t.Errorf("%q: %v, %v, want %v", s, l, err, want)
		return
	}
	again(t, s, l)
}

// again holds P13: what Text tells has the tokens again; it tells nothing only where that would be too long.
func again(t *testing.T, s string, l []Token) {
	t.Helper()
	var texts []string
	for _, x := range l[:len(l)-1] {
		texts = append(texts, x.Text)
	}
	told, err := Text(l)
	want := strings.Join(texts, " ")
	if len(want) > api.MaxSource {
		if err != api.ErrShape || told != "" {
			t.Errorf("%q: %v", s, err)
		}
		return
	}
	if told != want || err != nil {
		t.Errorf("%q: %q, %v, want %q", s, told, err, want)
		return
	}
	if back, err := Lex(told); err != nil || !alike(back, l) {
		t.Errorf("%q: %q: %v, %v", s, told, back, err)
	}
}

// TestShortPrograms goes through all programs of a few bytes and pieces.
func TestShortPrograms(t *testing.T) {
	m := newModel()
	pieces := []string{"a", "z9", "_", "0", "1", "28", "-", ">", "<", "=", "(", " ", "\n", "\t", "if", "abcdefghijk"}
	var grow func(s string, left int)
	grow = func(s string, left int) {
		m.holds(t, s)
		for _, p := range pieces {
			if left > 0 && !t.Failed() {
				grow(s+p, left-1)
			}
		}
	}
	grow("", 4)
}

func TestPairsOfTokens(t *testing.T) {
	m := newModel()
	all := strings.Fields(words + " " + ops + " a b_1 0 7 10 99 100 127 128")
	for _, a := range all {
		for _, b := range all {
			for _, between := range []string{"", " ", "\n", "--\n", " -- x"} {
				m.holds(t, a+between+b)
			}
		}
	}
}

const counter = `-- counts up, and begins anew
node count(reset: bool; step: int) returns (n: int);
var last: int;
let
  last = 0 fby n;
  n = if reset then 0 else (last + step) mod 100;
  assert step >= 0 and step <= 10;
  check not reset => n <> -1;
tel
`

func TestWholeProgram(t *testing.T) {
	newModel().holds(t, counter)
}

// TestP2SameAnswer: what was asked ahead does not show.
func TestP2SameAnswer(t *testing.T) {
	first := mustLex(t, counter)
	wantFault(t, "a [", 2)
	if !reflect.DeepEqual(mustLex(t, counter), first) {
		t.Error("another answer")
	}
}

func FuzzLex(f *testing.F) {
	for _, s := range []string{"", counter, "a=1->pre b;-- x\nc", "1--2\n-3", "x[1]", "abcdefghijklm", "\xff--", strings.Repeat("(", api.MaxSource)} {
		f.Add(s)
	}
	m := newModel()
	f.Fuzz(func(t *testing.T, s string) {
		if len(s) <= api.MaxSource {
			m.holds(t, s)
		} else if _, err := Lex(s); err != api.ErrBound {
			t.Error(len(s), err)
		}
	})
}

func FuzzText(f *testing.F) {
	f.Add("name", "a", "op", "=", "end", "")
	f.Add("op", "-", "op", "-", "end", "")
	f.Add("op", "-- ", "op", "\n=", "end", "")
	f.Add("end", "", "name", "", "end", "")
	f.Fuzz(func(t *testing.T, k1, t1, k2, t2, k3, t3 string) {
		l := []Token{{k1, t1, 0}, {k2, t2, 0}, {k3, t3, 0}}
		for n := range len(l) + 1 {
			s, err := Text(l[:n])
			if err == nil && s != strings.TrimSuffix(strings.Join([]string{t1, t2, t3}[:n], " "), " ") {
				t.Errorf("%v: %q", l[:n], s)
			}
			if back, fault := Lex(s); err == nil && (fault != nil || !alike(back, l[:n])) {
				t.Errorf("%v: %q: %v, %v", l[:n], s, back, fault)
			}
			if err != nil && (err != api.ErrShape || s != "") {
				t.Errorf("%v: %q, %v", l[:n], s, err)
			}
		}
	})
}
