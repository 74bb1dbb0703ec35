package round

import "vitrine/api"

// The functions here take care that valid lists, and all lists in them, have memory of their own, whatever they shared before.

// own returns a copy of a list.
func own[T any](l []T) []T {
	if len(l) == 0 {
		return nil
	}
	c := make([]T, len(l))
	copy(c, l)
	return c
}

// ownAll returns a copy of a list, after inner has made copies of the lists in each one.
func ownAll[T any](l []T, inner func(x *T)) []T {
	c := own(l)
	for i := range c {
		inner(&c[i])
	}
	return c
}

func ownRules(l []api.Rule) []api.Rule {
	return ownAll(l, func(r *api.Rule) {
		r.Selectors = ownSelectors(r.Selectors)
		r.Decls = ownAll(r.Decls, ownDecl)
		ownCond(&r.Cond)
		r.Names = ownAll(r.Names, func(names *[]string) { *names = own(*names) })
		r.Rules = ownRules(r.Rules)
	})
}

func ownSelectors(l []api.Complex) []api.Complex {
	return ownAll(l, func(c *api.Complex) {
		c.Parts = ownAll(c.Parts, ownCompound)
		c.Combs = own(c.Combs)
	})
}

func ownCompound(p *api.Compound) {
	p.Simples = ownAll(p.Simples, func(s *api.Simple) { s.List = ownSelectors(s.List) })
}

func ownDecl(d *api.Decl) { d.Value = ownValues(d.Value) }

func ownValues(v []api.Value) []api.Value {
	return ownAll(v, func(x *api.Value) { x.List = ownValues(x.List) })
}

func ownCond(c *api.Cond) {
	ownDecl(&c.Decl)
	c.List = ownAll(c.List, ownCond)
}
