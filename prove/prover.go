package prove

import (
	"lustrum/api"
	"lustrum/cnf"
	"lustrum/flat"
	"lustrum/plan"
	"lustrum/sat"
	"lustrum/throw"
	"lustrum/trans"
)

// What is answered of a formula.
const (
	yes   = "yes"
	no    = "no"
	tired = "tired"
)

// fewMemories that a program has, without ints, of which no search with MaxEffort may tire (of few instants).
const fewMemories = 5

// share of an effort behind which a search of instants is given up, where there is another way.
const share = api.MaxEffort / 20

// prover by induction. What it is refused it throws.
type prover struct {
	instants *aim
	states   *aim // the same, by states; nil: it has not been asked for
	isFew    bool
}

func newProver(p flat.Program, c int) *prover {
	l := throw.Must(plan.Of(p))
	return &prover{instants: newAim(throw.Must(trans.Make(p)), c), isFew: !l.HasInts() && len(l.Kept) <= fewMemories}
}

// layer of a formula, for an aim.
type layer func(*aim) cnf.Formula

func bases(least, most int) layer {
	return func(x *aim) cnf.Formula { return x.base(least, most) }
}

func steps(k int) layer {
	return func(x *aim) cnf.Formula { return x.step(k) }
}

// formula for searches with such an effort. All of them that are not tired have the same one: with less than a share none other is asked for, and what is answered then would be within a share, too.
func (x *prover) formula(effort int, lay layer) cnf.Formula {
	f := lay(x.instants)
	if !x.isFew || effort < share {
		return f
	}
	if throw.Must(sat.Solve(f, share)).Kind != tired {
		return f
	}
	if x.states == nil {
		x.states = x.instants.byStates()
	}
	return lay(x.states)
}

func (x *prover) ask(effort int, lay layer) sat.Answer {
	return throw.Must(sat.Solve(x.formula(effort, lay), effort))
}

// induction with the least number with which it proves, up to most; 0: there is none.
func (x *prover) induction(most, effort int) Proof {
	for n := range most {
		k := n + 1
		base := x.ask(effort, bases(k, k)) // of fewer instants it is known by now that the last one is never wrong
		if base.Kind != no {
			break
		}
		step := x.ask(effort, steps(k))
		if step.Kind == yes {
			continue
		}
		if step.Kind == no && k > 1 {
			base = x.ask(effort, bases(1, k))
		}
		if step.Kind == no && base.Kind == no {
			return Proof{k, base.Proof, step.Proof}
		}
		break
	}
	return Proof{}
}
