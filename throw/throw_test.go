package throw

import (
	"errors"
	"testing"
)

var errSome = errors.New("some")

func half(n int) (int, error) {
	if n%2 > 0 {
		return 77, errSome
	}
	return n / 2, nil
}

func TestAnswer(t *testing.T) {
	quarter := func(n int) (int, error) {
		return Answer(func() int { return Must(half(Must(half(n)))) })
	}
	for n, want := range map[int]int{0: 0, 4: 1, 12: 3} {
		if got, err := quarter(n); got != want || err != nil {
			t.Errorf("%d: %d, %v", n, got, err)
		}
	}
	for _, n := range []int{1, 2, 3, 6} {
		if got, err := quarter(n); got != 0 || err != errSome {
			t.Errorf("%d: %d, %v", n, got, err)
		}
	}
}

func TestIf(t *testing.T) {
	for _, want := range []error{nil, errSome} {
		reached := false
		l, err := Answer(func() []int {
			If(want)
			reached = true
			return []int{1}
		})
		if err != want || reached != (want == nil) || len(l) > 0 != (want == nil) {
			t.Errorf("%v: %v, %v", want, l, err)
		}
	}
}

// TestInner: who is nearest has the error.
func TestInner(t *testing.T) {
	n, err := Answer(func() int {
		if n, err := Answer(func() int { return Must(half(1)) }); n != 0 || err != errSome {
			t.Errorf("%d, %v", n, err)
		}
		return 5
	})
	if n != 5 || err != nil {
		t.Errorf("%d, %v", n, err)
	}
}

// TestOtherPanics: only what is thrown is taken for an error.
func TestOtherPanics(t *testing.T) {
	defer func() {
		if p := recover(); p != "other" {
			t.Errorf("%v", p)
		}
	}()
	Answer(func() int { panic("other") })
	t.Error("a panic was swallowed")
}
