// Package given holds what was given whole to what it has to stay.
package given

import (
	"crypto/sha256"
	"encoding/hex"
	"errors"
	"os"
	"testing"

	"lustrum/api"
	"lustrum/plain"
)

// TestToTheByte: packages api and plain are as they were given.
func TestToTheByte(t *testing.T) {
	for name, want := range map[string]string{
		"api":   "2d65443ed1d6d666384272076e65aaed77ae0978fdcdc8bea54bdf505e1fa365",
		"plain": "53997c2dce4f32e47e61b08f3915473b1202af08853e6e656bf8e0408d943680",
	} {
		b, err := os.ReadFile("../" + name + "/" + name + ".go")
		if err != nil {
			t.Fatal(err)
		}
		if sum := sha256.Sum256(b); hex.EncodeToString(sum[:]) != want {
			t.Errorf("%s has changed", name)
		}
	}
}

func TestP5Bounds(t *testing.T) {
	got := []int{api.MaxSource, api.MaxName, api.MaxDeep, api.MaxNodes, api.MaxParts, api.Bits, api.MaxFlat, api.MaxTerms, api.MaxTicks, api.MaxGates, api.MaxVars, api.MaxClauses, api.MaxEffort, api.MaxDepth, api.MaxLines, api.Workers, api.Bool, api.Int}
	want := []int{6000, 12, 20, 12, 30, 8, 400, 4000, 300, 100000, 150000, 500000, 1000000, 40, 100, 16, 1, 2}
	for i := range want {
		if got[i] != want[i] {
			t.Errorf("bound %d: %d, want %d", i, got[i], want[i])
		}
	}
}

func TestP5Errors(t *testing.T) {
	for i, e := range []struct {
		err  error
		text string
	}{
		{api.ErrText, "lustrum: text"},
		{api.ErrBound, "lustrum: bound"},
		{api.ErrShape, "lustrum: shape"},
		{api.ErrName, "lustrum: name"},
		{api.ErrType, "lustrum: type"},
		{api.ErrCycle, "lustrum: cycle"},
		{api.ErrFirst, "lustrum: first"},
		{api.ErrProof, "lustrum: proof"},
		{api.ErrNone, "lustrum: none"},
	} {
		f := &api.Fault{At: 7, Err: e.err}
		if e.err.Error() != e.text || f.Error() != e.text || !errors.Is(f, e.err) {
			t.Errorf("%v, %v, want %q", e.err, f, e.text)
		}
		if code, at := plain.Code(e.err); code != i+1 || at != -1 {
			t.Errorf("%v: %d at %d", e.err, code, at)
		}
		if code, at := plain.Code(f); code != i+1 || at != 7 {
			t.Errorf("%v: %d at %d", f, code, at)
		}
	}
}
