package types

import (
	"testing"

	"lustrum/api"
)

func TestResult(t *testing.T) {
	for _, c := range []struct {
		op    string
		parts []int
		want  int
		err   error
	}{
		{"int", nil, api.Int, nil},
		{"false", []int{}, api.Bool, nil},
		{"not", []int{api.Bool}, api.Bool, nil},
		{"neg", []int{api.Int}, api.Int, nil},
		{"<", []int{api.Int, api.Int}, api.Bool, nil},
		{"=", []int{api.Bool, api.Bool}, api.Bool, nil},
		{"=", []int{api.Int, api.Int}, api.Bool, nil},
		{"pre", []int{api.Bool}, api.Bool, nil},
		{"->", []int{api.Int, api.Int}, api.Int, nil},
		{"if", []int{api.Bool, api.Int, api.Int}, api.Int, nil},
		{"", nil, 0, api.ErrShape},
		{"name", nil, 0, api.ErrShape},
		{"call", []int{api.Int}, 0, api.ErrShape},
		{"int", []int{api.Int}, 0, api.ErrShape},
		{"+", nil, 0, api.ErrShape},
		{"+", []int{api.Bool, 7, 0}, 0, api.ErrShape},
		{"not", []int{api.Int}, 0, api.ErrType},
		{"+", []int{api.Int, api.Bool}, 0, api.ErrType},
		{"=", []int{api.Int, api.Bool}, 0, api.ErrType},
		{"=", []int{0, api.Int}, 0, api.ErrType},
		{"<>", []int{7, 7}, 0, api.ErrType},
		{"pre", []int{0}, 0, api.ErrType},
		{"pre", []int{-1}, 0, api.ErrType},
		{"if", []int{api.Int, api.Int, api.Int}, 0, api.ErrType},
		{"if", []int{api.Bool, api.Int, api.Bool}, 0, api.ErrType},
	} {
		if got, err := Result(c.op, c.parts); got != c.want || err != c.err {
			t.Errorf("%q %v: %d, %v, want %d, %v", c.op, c.parts, got, err, c.want, c.err)
		}
	}
}
