package graph

import "lustrum/api"

func isInput(p pair) bool { return p == pair{} }

// has all of these literals.
func (g *Graph) has(l ...api.Lit) bool {
	for _, x := range l {
		if x < 0 || int(x/2) >= g.Gates() {
			return false
		}
	}
	return true
}

// add a gate of such parts.
func (g *Graph) add(p pair) (api.Lit, error) {
	if g.Gates() >= api.MaxGates {
		return 0, api.ErrBound
	}
	g.parts = append(g.parts, p)
	return api.Lit(2 * len(g.parts)), nil
}

// gate of such parts: the one that is there, or a new one.
func (g *Graph) gate(p pair) (api.Lit, error) {
	if x, ok := g.gates[p]; ok {
		return x, nil
	}
	x, err := g.add(p)
	if err != nil {
		return 0, err
	}
	if g.gates == nil {
		g.gates = map[pair]api.Lit{}
	}
	g.gates[p] = x
	return x, nil
}

// either the first two, or the last two. All four are looked at ahead of the first gate, so that what is none of the graph's leaves no gate behind, and is told ahead of the bound.
func (g *Graph) either(a, b, c, d api.Lit) (api.Lit, error) {
	if !g.has(a, b, c, d) {
		return 0, api.ErrShape
	}
	x, err := g.And(a, b)
	if err != nil {
		return 0, err
	}
	y, err := g.And(c, d)
	if err != nil {
		return 0, err
	}
	return g.Or(x, y)
}

// needed gates. Parts are of lesser numbers than their gate, so that one way down comes to all of them.
func (g *Graph) needed(l []api.Lit) []bool {
	needed := make([]bool, g.Gates())
	for _, x := range l {
		needed[x/2] = true
	}
	for i := len(g.parts) - 1; i >= 0; i-- {
		if p := g.parts[i]; needed[1+i] && !isInput(p) {
			needed[p[0]/2], needed[p[1]/2] = true, true
		}
	}
	return needed
}

// values of all gates, from gate 0 on: parts stand ahead of their gate, so that they are known when it is come to.
func (g *Graph) values(in []bool) []bool {
	values := make([]bool, g.Gates())
	came := 0
	for i, p := range g.parts {
		if isInput(p) {
			values[1+i] = in[came]
			came++
		} else {
			values[1+i] = holds(values, p[0]) && holds(values, p[1])
		}
	}
	return values
}

// holds a literal, gates having such values?
func holds(values []bool, x api.Lit) bool { return values[x/2] != (x&1 == 1) }
