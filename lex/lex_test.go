package lex

import (
	"errors"
	"reflect"
	"strconv"
	"strings"
	"testing"

	"lustrum/api"
)

// words of the language, as P10 lists them.
const words = "and assert bool check else false fby if int let mod node not or pre returns tel then true var xor"

// ops, as P11 lists them.
const ops = "<> <= >= => -> ( ) , ; : = < > + - * /"

func mustLex(t *testing.T, s string) []Token {
	t.Helper()
	l, err := Lex(s)
	if err != nil {
		t.Fatalf("%q: %v", s, err)
	}
	return l
}

// wantFault holds that a program is refused with ErrText at that byte, and that nothing else is answered.
func wantFault(t *testing.T, s string, at int) {
	t.Helper()
	l, err := Lex(s)
	f, ok := err.(*api.Fault)
	if !ok || f.Err != api.ErrText || f.At != at || len(l) != 0 {
		t.Errorf("%q: %v, %#v, want ErrText at %d", s, l, err, at)
	}
}

func TestP10Tokens(t *testing.T) {
	for s, want := range map[string][]Token{
		"":            {{"end", "", 0}},
		" \n ":        {{"end", "", 3}},
		"x":           {{"name", "x", 0}, {"end", "", 1}},
		" x \n":       {{"name", "x", 1}, {"end", "", 4}},
		"pre n+1;":    {{"word", "pre", 0}, {"name", "n", 4}, {"op", "+", 5}, {"int", "1", 6}, {"op", ";", 7}, {"end", "", 8}},
		"n = 0 -> 12": {{"name", "n", 0}, {"op", "=", 2}, {"int", "0", 4}, {"op", "->", 6}, {"int", "12", 9}, {"end", "", 11}},
		"12ab":        {{"int", "12", 0}, {"name", "ab", 2}, {"end", "", 4}},
		"end":         {{"name", "end", 0}, {"end", "", 3}},
	} {
		if got := mustLex(t, s); !reflect.DeepEqual(got, want) {
			t.Errorf("%q: %v, want %v", s, got, want)
		}
	}
}

func TestP10Words(t *testing.T) {
	for _, w := range strings.Fields(words) {
		if got := mustLex(t, w)[0]; got != (Token{"word", w, 0}) {
			t.Errorf("%q: %v", w, got)
		}
		for _, n := range []string{w + "s", w + "_", w + "0", w[:1] + "_" + w[1:]} {
			if got := mustLex(t, n)[0]; got != (Token{"name", n, 0}) {
				t.Errorf("%q: %v", n, got)
			}
		}
	}
}

func TestP10Comments(t *testing.T) {
	for s, want := range map[string][]Token{
		"--":               {{"end", "", 2}},
		"---->(":           {{"end", "", 6}},
		"--\x00\t\xff A\r": {{"end", "", 8}},
		"--\n":             {{"end", "", 3}},
		"-- a\n--b\n c":    {{"name", "c", 10}, {"end", "", 11}},
		"a--b\n1":          {{"name", "a", 0}, {"int", "1", 5}, {"end", "", 6}},
		"a-->b":            {{"name", "a", 0}, {"end", "", 5}},
		"->--\n-":          {{"op", "->", 0}, {"op", "-", 5}, {"end", "", 6}},
		"<--1":             {{"op", "<", 0}, {"end", "", 4}},
		"- -":              {{"op", "-", 0}, {"op", "-", 2}, {"end", "", 3}},
		"-\n-":             {{"op", "-", 0}, {"op", "-", 2}, {"end", "", 3}},
	} {
		if got := mustLex(t, s); !reflect.DeepEqual(got, want) {
			t.Errorf("%q: %v, want %v", s, got, want)
		}
	}
}

// TestP10Between: no other byte than those that the document names may stand between tokens, or begin one.
func TestP10Between(t *testing.T) {
	const begin = "abcdefghijklmnopqrstuvwxyz0123456789(),;:=<>+-*/ \n"
	for b := range 256 {
		s := "( " + string([]byte{byte(b)})
		if strings.IndexByte(begin, byte(b)) < 0 {
			wantFault(t, s, 2)
			continue
		}
		mustLex(t, s)
	}
}

func TestP11Names(t *testing.T) {
	full := strings.Repeat("a", api.MaxName)
	for _, n := range []string{"a", "z", "a_", "a__9z", "a0", full, "x" + strings.Repeat("_", api.MaxName-1)} {
		if got := mustLex(t, n); got[0] != (Token{"name", n, 0}) || len(got) != 2 {
			t.Errorf("%q: %v", n, got)
		}
	}
	wantFault(t, full+"a", 0)
	wantFault(t, full+"_", 0)
	wantFault(t, full+"0", 0)
	wantFault(t, "1 "+strings.Repeat("b", 5000), 2)
	wantFault(t, "_a", 0)
	wantFault(t, "A", 0)
	wantFault(t, "aB", 1)
	wantFault(t, "a\u00e9", 1)
}

func TestP11Ints(t *testing.T) {
	for n := range 300 {
		s := strconv.Itoa(n)
		if n > 127 {
			wantFault(t, "-"+s, 1)
		} else if got := mustLex(t, s); got[0] != (Token{"int", s, 0}) || len(got) != 2 {
			t.Errorf("%q: %v", s, got)
		}
		wantFault(t, "0"+s, 0)
	}
	for _, s := range []string{"00", "000", "1000", "0127", "4294967297", "18446744073709551617", strings.Repeat("1", api.MaxSource), strings.Repeat("0", 40)} {
		wantFault(t, s, 0)
	}
}

func TestP11Ops(t *testing.T) {
	for _, o := range strings.Fields(ops) {
		if got := mustLex(t, o); got[0] != (Token{"op", o, 0}) || len(got) != 2 {
			t.Errorf("%q: %v", o, got)
		}
	}
	for s, want := range map[string]string{
		"<>=":  "<> =",
		"<=>":  "<= >",
		"<=>=": "<= >=",
		"=>=":  "=> =",
		">=>":  ">= >",
		"==>":  "= =>",
		"->=":  "-> =",
		"<->":  "< ->",
		"-=":   "- =",
		"><":   "> <",
		"**":   "* *",
		"(),":  "( ) ,",
		":=":   ": =",
	} {
		var got []string
		for _, x := range mustLex(t, s) {
			got = append(got, x.Text)
		}
		if strings.Join(got, " ") != want+" " {
			t.Errorf("%q: %q, want %q", s, got, want)
		}
	}
}

func TestP12LexErrors(t *testing.T) {
	for s, at := range map[string]int{
		"\t":          0,
		"a\r\n":       1,
		"a = 01":      4,
		"-- [\n [":    6,
		"a [ 128":     2,
		"128 [":       0,
		"x.y":         1,
		"a\x00":       1,
		"\xff":        0,
		"1 \u00a0 2":  2,
		"a & b":       2,
		"a ! b":       2,
		"\"a\"":       0,
		"a -- b\n\tc": 7,
	} {
		wantFault(t, s, at)
	}
}

func TestP12LexBound(t *testing.T) {
	for _, b := range []string{" ", "\n", "-", "(", "["} {
		s := strings.Repeat(b, api.MaxSource)
		if _, err := Lex(s); errors.Is(err, api.ErrBound) {
			t.Errorf("%d times %q: %v", len(s), b, err)
		}
		// The bound is named ahead of the text: it is told of what cannot be read, too, and bare.
		if l, err := Lex(s + b); err != api.ErrBound || len(l) != 0 {
			t.Errorf("%d times %q: %v, %v", len(s)+1, b, len(l), err)
		}
	}
}

func TestP12Text(t *testing.T) {
	for s, want := range map[string]string{
		"":                     "",
		" -- nothing\n":        "",
		"a":                    "a",
		"\na=b->1; -- it is\n": "a = b -> 1 ;",
		"- -1":                 "- - 1",
		"a< >b":                "a < > b",
		"12ab":                 "12 ab",
		"node f(x:int)returns": "node f ( x : int ) returns",
	} {
		if got, err := Text(mustLex(t, s)); got != want || err != nil {
			t.Errorf("%q: %q, %v, want %q", s, got, err, want)
		}
	}
}

func TestP12TextForgetsAt(t *testing.T) {
	l := []Token{{"name", "a", 7}, {"op", "=", -1}, {"int", "1", 1 << 40}, {"end", "", 3}}
	if s, err := Text(l); s != "a = 1" || err != nil {
		t.Errorf("%q, %v", s, err)
	}
}

func TestP12TextErrors(t *testing.T) {
	end := Token{Kind: "end"}
	for _, l := range [][]Token{
		nil,
		{},
		{{Kind: "name", Text: "a"}},
		{{Kind: "end", Text: "a"}},
		{{Kind: "end", Text: " "}},
		{end, end},
		{end, {Kind: "name", Text: "a"}, end},
		{{}, end},
		{{Kind: "name"}, end},
		{{Kind: "op"}, {Kind: "name", Text: "a"}, end},
		{{Kind: "", Text: "a"}, end},
		{{Kind: "Name", Text: "a"}, end},
		{{Kind: "name", Text: "pre"}, end},
		{{Kind: "word", Text: "a"}, end},
		{{Kind: "int", Text: "a"}, end},
		{{Kind: "name", Text: "1"}, end},
		{{Kind: "int", Text: "128"}, end},
		{{Kind: "int", Text: "01"}, end},
		{{Kind: "int", Text: "-1"}, end},
		{{Kind: "int", Text: "+1"}, end},
		{{Kind: "name", Text: "a "}, end},
		{{Kind: "name", Text: " a"}, end},
		{{Kind: "name", Text: "a b"}, end},
		{{Kind: "name", Text: "a--"}, end},
		{{Kind: "name", Text: "abcdefghijklm"}, end},
		{{Kind: "op", Text: "--"}, end},
		{{Kind: "op", Text: "=="}, end},
		{{Kind: "op", Text: "-- "}, {Kind: "op", Text: "\n="}, end},
		{{Kind: "op", Text: "["}, end},
	} {
		if s, err := Text(l); err != api.ErrShape || s != "" {
			t.Errorf("%v: %q, %v", l, s, err)
		}
	}
}

// parens are n tokens of one byte each, and the end.
func parens(n int) []Token {
	var l []Token
	for range n {
		l = append(l, Token{Kind: "op", Text: "("})
	}
	return append(l, Token{Kind: "end"})
}

func TestP12TextBound(t *testing.T) {
	const most = api.MaxSource / 2 // n of one byte are told in 2n - 1 bytes
	if s, err := Text(parens(most)); len(s) != api.MaxSource-1 || err != nil {
		t.Error(len(s), err)
	}
	full := append([]Token{{Kind: "op", Text: "->"}}, parens(most-1)...)
	if s, err := Text(full); len(s) != api.MaxSource || err != nil {
		t.Error(len(s), err)
	}
	// Each of these is read, where less stands between; but what Text would tell is too long.
	for _, l := range [][]Token{append([]Token{{Kind: "name", Text: "abc"}}, parens(most-1)...), parens(most + 1), mustLex(t, strings.Repeat("(", api.MaxSource))} {
		if s, err := Text(l); err != api.ErrShape || s != "" {
			t.Error(len(l), len(s), err)
		}
	}
}

// TestP12TextHuge: tokens whose texts together are more than memory holds are no program, and no panic.
func TestP12TextHuge(t *testing.T) {
	long := strings.Repeat("a", 1<<20)
	l := make([]Token, 1<<20)
	for i := range l {
		l[i] = Token{Kind: "name", Text: long}
	}
	if s, err := Text(l); err != api.ErrShape || s != "" {
		t.Error(len(s), err)
	}
	if s, err := Text(make([]Token, 1<<20)); err != api.ErrShape || s != "" {
		t.Error(len(s), err)
	}
}

func TestP4TextOnlyReads(t *testing.T) {
	l := mustLex(t, "a  =  1")
	kept := append([]Token(nil), l...)
	if _, err := Text(l); err != nil || !reflect.DeepEqual(l, kept) {
		t.Errorf("%v, %v", l, err)
	}
	room := append(make([]Token, 0, 9), kept...)
	if _, err := Text(room[:1]); err != api.ErrShape || !reflect.DeepEqual(room, kept) {
		t.Errorf("%v, %v", room, err)
	}
}
