package sat

import (
	"math/rand"
	"testing"

	"lustrum/api"
	"lustrum/cnf"
)

// seen counts what games have shown.
type seen struct {
	yes, no, tired, lemmas         int
	none, few, many, more, refused int
}

// game of choices.
type game struct {
	t       testing.TB
	choices []byte
	seen    *seen
}

func (p *game) choose(n int) int {
	if len(p.choices) == 0 {
		return 0
	}
	c := int(p.choices[0])
	p.choices = p.choices[1:]
	return c % n
}

// formula of choices: now and then with a clause that is none, with numbers that come twice, or turned too.
func (p *game) formula() cnf.Formula {
	f := cnf.Formula{Vars: p.choose(12)}
	size := 1 + p.choose(4)
	for len(p.choices) > 0 {
		c := api.Clause{}
		for range size + p.choose(2) {
			n := 1 + p.choose(max(f.Vars, 1))
			c = append(c, signed(n, p.choose(2) == 1))
		}
		f.L = append(f.L, c)
	}
	if f.Vars == 0 && len(f.L) > 0 {
		f.L = f.L[:1]
		if size < 3 {
			f.L[0] = nil
		}
	}
	return f
}

// play: what is answered is held against all that variables can be.
func play(t testing.TB, s *seen, choices []byte) {
	t.Helper()
	p := &game{t: t, choices: choices, seen: s}
	effort, most := p.choose(8), p.choose(64)
	if p.choose(2) == 0 {
		effort = 1 << 12
	}
	f := p.formula()
	a, err := Solve(f, effort)
	n, bad := Count(f, most)
	if wrong := cnf.Check(f); wrong != nil {
		s.refused++
		if !isZero(a) || n != 0 || !isFault(err, api.ErrShape, 0) || !isFault(bad, api.ErrShape, 0) {
			t.Fatal(f, a, err, n, bad, wrong)
		}
		return
	}
	if err != nil {
		t.Fatal(f, err)
	}
	right(t, f, a)
	models := modelsOf(f)
	p.compareKind(f, a, models, effort)
	p.compareCount(f, n, bad, models, most)
}

func (p *game) compareKind(f cnf.Formula, a Answer, models, effort int) {
	p.t.Helper()
	switch a.Kind {
	case "yes":
		p.seen.yes++
	case "no":
		p.seen.no++
		p.seen.lemmas += len(a.Proof) - 1
	case "tired":
		p.seen.tired++
	}
	if a.Kind == "yes" && models == 0 || a.Kind == "no" && models > 0 || a.Kind == "tired" && effort >= 1<<f.Vars {
		p.t.Fatal(f, a, models, effort)
	}
}

func (p *game) compareCount(f cnf.Formula, n int, err error, models, most int) {
	p.t.Helper()
	switch {
	case models > most:
		p.seen.more++
		if n != 0 || err != api.ErrBound {
			p.t.Fatal(f, n, err, models, most)
		}
		return
	case models == 0:
		p.seen.none++
	case models < 9:
		p.seen.few++
	default:
		p.seen.many++
	}
	if n != models || err != nil {
		p.t.Fatal(f, n, err, models, most)
	}
}

func drawn(r *rand.Rand, n int) []byte {
	l := make([]byte, n)
	r.Read(l)
	return l
}

func TestP122Second(t *testing.T) {
	r := rand.New(rand.NewSource(122))
	s := new(seen)
	for range 20000 {
		play(t, s, drawn(r, 5+r.Intn(300)))
	}
	if s.yes < 4000 || s.no < 5000 || s.tired < 100 || s.lemmas < 10000 || s.refused < 300 {
		t.Errorf("only %+v", *s)
	}
	if s.none < 5000 || s.few < 1500 || s.many < 500 || s.more < 1500 {
		t.Errorf("only %+v", *s)
	}
}

func FuzzSat(f *testing.F) {
	r := rand.New(rand.NewSource(128))
	f.Add(drawn(r, 40))
	f.Add(drawn(r, 250))
	f.Fuzz(func(t *testing.T, choices []byte) {
		if len(choices) < 600 {
			play(t, new(seen), choices)
		}
	})
}
