package judge

import (
	"errors"

	"lustrum/api"
	"lustrum/flat"
	"lustrum/flow"
	"lustrum/prove"
	"lustrum/unroll"
)

// checker of a program's verdicts.
type checker struct {
	program flat.Program
	code    *flow.Code
}

func (x *checker) check(c int, v Verdict) error {
	switch {
	case !v.isFormed():
		return api.ErrShape
	case v.Kind == wrong && !x.goesWrong(c, v.Trace):
		return api.ErrProof
	case v.Kind == safe:
		return prove.Check(x.program, c, v.Proof)
	}
	return nil
}

// isFormed tells whether a verdict is of a kind, and has nothing that one of its kind must not have.
func (v Verdict) isFormed() bool {
	hasTrace := len(v.Trace) > 0
	hasProof := v.Proof.K != 0 || len(v.Proof.Base) > 0 || len(v.Proof.Step) > 0
	switch v.Kind {
	case safe:
		return !hasTrace
	case wrong:
		return !hasProof
	case unknown:
		return !hasTrace && !hasProof
	}
	return false
}

// goesWrong tells whether, by these inputs, the last instant is wrong. It goes instant by instant, since a trace may have more of them than a run.
func (x *checker) goesWrong(c int, in [][]api.Value) bool {
	state := x.code.Start()
	for i, now := range in {
		t, next, err := x.code.Instant(state, now)
		switch {
		case err != nil:
			return false
		case i == len(in)-1:
			return isWrong(t, c)
		case t.Trap || !t.Assert:
			return false
		}
		state = next
	}
	return false
}

// isWrong instant, if it can be come to?
func isWrong(t flow.Tick, c int) bool {
	if c == unroll.Trap {
		return t.Trap
	}
	return t.Assert && !t.Trap && !t.Checks[c]
}

// reason of an error alone: the place that it has is one within a proof, not among verdicts.
func reason(err error) error {
	var f *api.Fault
	if errors.As(err, &f) {
		return f.Err
	}
	return err
}
