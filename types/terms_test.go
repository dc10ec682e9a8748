package types

import (
	"reflect"
	"testing"

	"lustrum/api"
	"lustrum/tree"
)

func TestTermsOfNames(t *testing.T) {
	kinds := map[string]int{"0.x": api.Int, "a b": api.Bool, "i": api.Int}
	x, b := tree.Expr{Op: "name", S: "0.x"}, tree.Expr{Op: "name", S: "a b"}
	op := func(op string, l ...tree.Expr) tree.Expr { return tree.Expr{Op: op, L: l} }
	for _, c := range []struct {
		l    []tree.Expr
		want []int
		err  error
	}{
		{nil, nil, nil},
		{[]tree.Expr{x, b}, []int{api.Int, api.Bool}, nil},
		{[]tree.Expr{op("pre", b), op("=", x, x), op("if", b, x, x), op("fby", b, op("not", b))}, []int{api.Bool, api.Bool, api.Int, api.Bool}, nil},
		{[]tree.Expr{x, op("+", x, b)}, nil, api.ErrType},
		{[]tree.Expr{x, {Op: "name", S: "zz"}}, nil, api.ErrName},
		{[]tree.Expr{op("neg", b), {Op: "name", S: "zz"}}, nil, api.ErrType},
		{[]tree.Expr{{Op: "name", S: "zz"}, op("neg", b)}, nil, api.ErrName},
		{[]tree.Expr{{Op: "call", S: "i"}}, nil, api.ErrName},
		{[]tree.Expr{{}}, nil, api.ErrType},
		{[]tree.Expr{op("zz", x)}, nil, api.ErrType},
		{[]tree.Expr{op("neg")}, nil, api.ErrType},
		{[]tree.Expr{op("+", x, x, x)}, nil, api.ErrType},
	} {
		got, err := Terms(kinds, c.l)
		if len(got) != len(c.want) || len(got) > 0 && !reflect.DeepEqual(got, c.want) || err != c.err {
			t.Errorf("%v: %v, %v, want %v, %v", c.l, got, err, c.want, c.err)
		}
	}
	if len(kinds) != 3 {
		t.Errorf("changed to %v", kinds)
	}
	if l, err := Terms(nil, []tree.Expr{x}); l != nil || err != api.ErrName {
		t.Errorf("%v, %v", l, err)
	}
}

func TestTermsBounded(t *testing.T) {
	one := tree.Expr{Op: "int", N: 1}
	deep, wide := one, one
	for range api.MaxTerms - 1 {
		deep = tree.Expr{Op: "neg", L: []tree.Expr{deep}}
	}
	for range 70 {
		wide = tree.Expr{Op: "+", L: []tree.Expr{wide, wide}}
	}
	if l, err := Terms(nil, []tree.Expr{deep}); !reflect.DeepEqual(l, []int{api.Int}) || err != nil {
		t.Errorf("%v, %v", l, err)
	}
	for i, terms := range [][]tree.Expr{{deep, one}, {wide}, make([]tree.Expr, api.MaxTerms+1)} {
		if l, err := Terms(nil, terms); l != nil || err != api.ErrBound {
			t.Errorf("%d: %v, %v", i, l, err)
		}
		if l, err := Parts(nil, terms); l != nil || err != api.ErrBound {
			t.Errorf("%d: %v, %v", i, l, err)
		}
	}
}

func TestPartsOfTerms(t *testing.T) {
	kinds := map[string]int{"i": api.Int, "b": api.Bool}
	i, b := tree.Expr{Op: "name", S: "i"}, tree.Expr{Op: "name", S: "b"}
	op := func(op string, l ...tree.Expr) tree.Expr { return tree.Expr{Op: op, L: l} }
	for _, c := range []struct {
		l    []tree.Expr
		want []int
		err  error
	}{
		{nil, nil, nil},
		{[]tree.Expr{b, i}, []int{api.Bool, api.Int}, nil},
		{[]tree.Expr{op("<", op("neg", i), i)}, []int{api.Int, api.Int, api.Int, api.Bool}, nil},
		{[]tree.Expr{op("if", op("=", i, i), b, op("pre", b)), op("true"), op("fby", i, i)}, []int{api.Int, api.Int, api.Bool, api.Bool, api.Bool, api.Bool, api.Bool, api.Bool, api.Int, api.Int, api.Int}, nil},
		{[]tree.Expr{i, op("+", i, b)}, nil, api.ErrType},
		{[]tree.Expr{op("neg", tree.Expr{Op: "name", S: "zz"}), op("+", i, b)}, nil, api.ErrName},
		{[]tree.Expr{{Op: "call", S: "i"}}, nil, api.ErrName},
		{[]tree.Expr{{}}, nil, api.ErrType},
	} {
		got, err := Parts(kinds, c.l)
		if len(got) != len(c.want) || len(got) > 0 && !reflect.DeepEqual(got, c.want) || err != c.err {
			t.Errorf("%v: %v, %v, want %v, %v", c.l, got, err, c.want, c.err)
		}
	}
}
