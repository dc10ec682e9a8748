package slim

import (
	"slices"

	"lustrum/flat"
	"lustrum/tree"
)

// merged flows of a program: those that stay, and what changes the names of the others in a term.
func merged(p flat.Program) (stay []flat.Flow, renamed func(tree.Expr) tree.Expr) {
	steads := map[string]flat.Flow{} // of the names that go: the flow whose name stands in their stead
	now := func(name string) string {
		if f, ok := steads[name]; ok {
			return f.Name
		}
		return name
	}
	var alike func(a, b tree.Expr) bool
	alike = func(a, b tree.Expr) bool {
		return a.Op == b.Op && a.N == b.N && now(a.S) == now(b.S) && slices.EqualFunc(a.L, b.L, alike)
	}
	renamed = func(e tree.Expr) tree.Expr {
		e = like(e, renamed)
		e.S = now(e.S)
		return e
	}
	for _, f := range p.L {
		first := slices.IndexFunc(stay, func(ahead flat.Flow) bool { return alike(ahead.E, f.E) })
		if first < 0 || slices.Contains(p.Out, f.Name) || divides(f.E) {
			stay = append(stay, f)
		} else {
			steads[f.Name] = stay[first]
		}
	}
	return stay, renamed
}
