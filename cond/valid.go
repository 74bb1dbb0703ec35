package cond

import (
	"strings"

	"vitrine/api"
	"vitrine/decl"
	"vitrine/input"
	"vitrine/nest"
)

// Words that are no name of a kind of media.
const (
	and  = "and"
	or   = "or"
	not  = "not"
	only = "only"
)

// isMedia reports whether a condition is a valid media condition.
func isMedia(c api.Cond) bool {
	if !isPure(c) {
		return false
	}
	switch c.Kind {
	case api.CondAll:
		return len(c.List) == 0
	case api.CondAny:
		return 1 <= len(c.List) && len(c.List) <= api.MaxRules && every(c.List, isQuery)
	}
	return false
}

func isQuery(c api.Cond) bool {
	if c.Kind != api.CondNot {
		return isPlainQuery(c)
	}
	return isPure(c) && len(c.List) == 1 && isPlainQuery(c.List[0]) && c.List[0].List[0].Kind == api.CondMedia
}

// isPlainQuery reports whether a condition is a valid query without a CondNot.
func isPlainQuery(c api.Cond) bool {
	if c.Kind != api.CondAll || !isPure(c) || len(c.List) == 0 {
		return false
	}
	features := c.List
	if isType(c.List[0]) {
		features = c.List[1:]
	}
	return every(features, isFeature)
}

func isType(c api.Cond) bool {
	return c.Kind == api.CondMedia && isPure(c) && isName(c.Name)
}

func isFeature(c api.Cond) bool {
	return (c.Kind == api.CondMin || c.Kind == api.CondMax) && isPure(c) && isLength(c.Num)
}

// isName reports whether a text may be the name of a kind of media.
func isName(s string) bool {
	switch s {
	case "", and, or, not, only:
		return false
	}
	return len(s) <= api.MaxName && strings.IndexByte(s, 0) < 0 && s == input.Lower(s)
}

func isLength(n int64) bool { return 0 <= n && n <= api.MaxNumber }

// isSupports reports whether a condition is a valid supports condition.
func isSupports(c api.Cond) bool {
	// Conditions may share lists, or be in their own one: what there is room for ends the search.
	room := api.MaxTokens
	var search func(c api.Cond, blocks int) bool
	search = func(c api.Cond, blocks int) bool {
		// Something in each condition stands in one block more than these.
		if room == 0 || blocks == api.MaxDepth || !isPure(c) {
			return false
		}
		room--
		switch c.Kind {
		case api.CondDecl:
			depth, _ := nest.Depth(c.Decl.Value)
			return decl.Check(c.Decl) == api.OK && blocks+1+depth <= api.MaxDepth
		case api.CondNever:
			return true
		}
		return hasItsCount(c) && every(c.List, func(x api.Cond) bool {
			if isGroup(x) {
				return search(x, blocks+1)
			}
			return search(x, blocks)
		})
	}
	return search(c, 0)
}

// isGroup reports whether a condition stands in a block of its own where it is a term.
func isGroup(c api.Cond) bool {
	return c.Kind == api.CondAll || c.Kind == api.CondAny || c.Kind == api.CondNot
}

// hasItsCount reports whether a condition is a group of a supports condition, with as many in its list as it has to have.
func hasItsCount(c api.Cond) bool {
	if c.Kind == api.CondNot {
		return len(c.List) == 1
	}
	return isGroup(c) && len(c.List) >= 2
}

// isPure reports whether all that the kind of a condition does not use is 0, or empty.
func isPure(c api.Cond) bool {
	switch c.Kind {
	case api.CondAll, api.CondAny, api.CondNot:
		c.List = nil
	case api.CondMedia:
		c.Name = ""
	case api.CondMin, api.CondMax:
		c.Num = 0
	case api.CondDecl:
		c.Decl = api.Decl{}
	}
	return c.Name == "" && c.Num == 0 && len(c.List) == 0 && isNoDecl(c.Decl)
}

func isNoDecl(d api.Decl) bool { return d.Name == "" && len(d.Value) == 0 && !d.Important }

func every(l []api.Cond, is func(c api.Cond) bool) bool {
	for _, c := range l {
		if !is(c) {
			return false
		}
	}
	return true
}
