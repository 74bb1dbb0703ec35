package sheet

import (
	"vitrine/api"
	"vitrine/nest"
)

// ownDepth returns the depth of a valid rule, without the rules in it.
func ownDepth(r api.Rule) int {
	switch r.Kind {
	case api.RuleNames:
		return 0
	case api.RuleStyle:
		return max(1+depthOfDecls(r.Decls), depthOfSelectors(r.Selectors))
	case api.RuleSupports:
		return depthOfSupports(r.Cond)
	}
	// The features of a media condition have no more blocks than the rule.
	return 1
}

func depthOfDecls(l []api.Decl) int {
	deepest := 0
	for _, d := range l {
		deepest = max(deepest, depthOfValues(d.Value))
	}
	return deepest
}

// depthOfValues returns the depth of valid values.
func depthOfValues(v []api.Value) int {
	n, _ := nest.Depth(v)
	return n
}

func depthOfSelectors(l []api.Complex) int {
	deepest := 0
	for _, c := range l {
		for _, p := range c.Parts {
			for _, s := range p.Simples {
				deepest = max(deepest, depthOfSimple(s))
			}
		}
	}
	return deepest
}

func depthOfSimple(s api.Simple) int {
	switch s.Kind {
	case api.SimAttr:
		return 1
	case api.SimNth, api.SimNthLast:
		// The first and the last child have nothing in their text.
		if s.Anb == (api.Anb{B: 1}) && !s.Of {
			return 0
		}
		return 1 + depthOfSelectors(s.List)
	case api.SimIs, api.SimWhere, api.SimNot, api.SimHas:
		return 1 + depthOfSelectors(s.List)
	}
	return 0
}

// depthOfSupports returns the depth of a valid supports condition, which is at least 1.
func depthOfSupports(c api.Cond) int {
	switch c.Kind {
	case api.CondDecl:
		return 1 + depthOfValues(c.Decl.Value)
	case api.CondNever:
		return 1
	}
	deepest := 0
	for _, x := range c.List {
		depth := depthOfSupports(x)
		if len(x.List) > 0 {
			// A group in a list stands in a block of its own.
			depth++
		}
		deepest = max(deepest, depth)
	}
	return deepest
}
