package lex

import (
	"strconv"
	"strings"

	"lustrum/api"
)

// biggestInt that a program can write; those below 0 are made by an operator.
const biggestInt = 1<<(api.Bits-1) - 1

// reader goes through a program by a closure that answers its next token at each call; where a token would have to begin and none does, it is of kindNone.
func reader(s string) func() Token {
	at := 0
	cut := func(n int) string {
		from := at
		at += n
		return strings.Clone(s[from:at])
	}
	take := func(in func(byte) bool) string {
		n := 0
		for at+n < len(s) && in(s[at+n]) {
			n++
		}
		return cut(n)
	}
	skip := func() {
		take(isBlank)
		for strings.HasPrefix(s[at:], "--") {
			take(func(b byte) bool { return b != '\n' })
			take(isBlank)
		}
	}
	return func() Token {
		skip()
		t := Token{At: at}
		switch {
		case at == len(s):
			t.Kind = kindEnd
		case isSmall(s[at]):
			t.Text = take(isOfName)
			t.Kind = nameKind(t.Text)
		case isDigit(s[at]):
			t.Text = take(isDigit)
			t.Kind = intKind(t.Text)
		default:
			t.Text = cut(opLength(s[at:]))
			t.Kind = opKind(t.Text)
		}
		return t
	}
}

func isBlank(b byte) bool { return b == ' ' || b == '\n' }

func isSmall(b byte) bool { return 'a' <= b && b <= 'z' }

func isDigit(b byte) bool { return '0' <= b && b <= '9' }

func isOfName(b byte) bool { return isSmall(b) || isDigit(b) || b == '_' }

func nameKind(text string) string {
	switch {
	case len(text) > api.MaxName:
		return kindNone
	case isWord(text):
		return kindWord
	}
	return kindName
}

func isWord(name string) bool {
	switch name {
	case "and", "assert", "bool", "check", "else", "false", "fby", "if", "int", "let", "mod",
		"node", "not", "or", "pre", "returns", "tel", "then", "true", "var", "xor":
		return true
	}
	return false
}

func intKind(text string) string {
	n, err := strconv.Atoi(text)
	if err != nil || n > biggestInt || len(text) > 1 && text[0] == '0' {
		return kindNone
	}
	return kindInt
}

func opKind(text string) string {
	if text == "" {
		return kindNone
	}
	return kindOp
}

// opLength of the longest operator with which s begins; 0 if there is none.
func opLength(s string) int {
	if len(s) > 1 {
		switch s[:2] {
		case "<>", "<=", ">=", "=>", "->":
			return 2
		}
	}
	if s != "" && strings.IndexByte("(),;:=<>+-*/", s[0]) >= 0 {
		return 1
	}
	return 0
}
