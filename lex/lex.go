// Package lex: words of a program: see ../shared/doc/01-lex.md.
package lex

import (
	"strings"

	"lustrum/api"
)

// Token of a program.
type Token struct {
	Kind, Text string
	At         int
}

// Kinds of tokens; kindNone is of what is no token.
const (
	kindNone = ""
	kindName = "name"
	kindWord = "word"
	kindInt  = "int"
	kindOp   = "op"
	kindEnd  = "end"
)

// Lex a program.
func Lex(s string) ([]Token, error) {
	if len(s) > api.MaxSource {
		return nil, api.ErrBound
	}
	next := reader(s)
	var l []Token
	for {
		t := next()
		if t.Kind == kindNone {
			return nil, &api.Fault{At: t.At, Err: api.ErrText}
		}
		l = append(l, t)
		if t.Kind == kindEnd {
			return l, nil
		}
	}
}

// Text of tokens.
func Text(l []Token) (string, error) {
	s, ok := join(l)
	if !ok {
		return "", api.ErrShape
	}
	// Lex itself is the judge: a token's text might hold a blank, a comment, or what is of another kind.
	again, err := Lex(s)
	if err != nil || !alike(l, again) {
		return "", api.ErrShape
	}
	return s, nil
}

// join sets one blank between the tokens ahead of the last one, which is the end and has no text.
func join(l []Token) (string, bool) {
	if len(l) == 0 {
		return "", false
	}
	var b strings.Builder
	for i, t := range l[:len(l)-1] {
		if i > 0 {
			b.WriteByte(' ')
		}
		// Asked ahead of writing: many tokens of long texts would be more than memory holds.
		if b.Len()+len(t.Text) > api.MaxSource {
			return "", false
		}
		b.WriteString(t.Text)
	}
	return b.String(), true
}

// alike tells whether two lists have the same tokens, wherever these stand.
func alike(a, b []Token) bool {
	if len(a) != len(b) {
		return false
	}
	for i := range a {
		if a[i].Kind != b[i].Kind || a[i].Text != b[i].Text {
			return false
		}
	}
	return true
}
