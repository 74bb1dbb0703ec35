package sheet

import (
	"strings"

	"vitrine/api"
	"vitrine/cond"
	"vitrine/decl"
	"vitrine/seltext"
)

// roomBehind returns how much of a room is left behind rules that stand in as many blocks, with those in them, and whether they are valid there and have room.
func roomBehind(l []api.Rule, blocks, room int) (int, bool) {
	for _, r := range l {
		if room == 0 || !isValid(r) || blocks+ownDepth(r) > api.MaxDepth {
			return 0, false
		}
		// Rules may be in themselves: room and depth end the search.
		left, ok := roomBehind(r.Rules, blocks+1, room-1)
		if !ok {
			return 0, false
		}
		room = left
	}
	return room, true
}

// isValid reports whether a rule is valid, whatever the rules in it are, and wherever it stands.
func isValid(r api.Rule) bool {
	if !isPure(r) {
		return false
	}
	switch r.Kind {
	case api.RuleStyle:
		return seltext.Check(r.Selectors) == api.OK && areDecls(r.Decls)
	case api.RuleMedia:
		return cond.CheckMedia(r.Cond) == api.OK
	case api.RuleSupports:
		return cond.CheckSupports(r.Cond) == api.OK
	case api.RuleLayer:
		return len(r.Names) <= 1 && areNames(r.Names)
	case api.RuleNames:
		return 1 <= len(r.Names) && len(r.Names) <= api.MaxRules && areNames(r.Names)
	}
	return false
}

// isPure reports whether all that the kind of a rule does not use is 0, or empty.
func isPure(r api.Rule) bool {
	if hasRules(r) {
		r.Rules = nil
	}
	switch r.Kind {
	case api.RuleStyle:
		r.Selectors, r.Decls = nil, nil
	case api.RuleMedia, api.RuleSupports:
		r.Cond = api.Cond{}
	case api.RuleLayer, api.RuleNames:
		r.Names = nil
	}
	return len(r.Selectors) == 0 && len(r.Decls) == 0 && isNoCond(r.Cond) && len(r.Names) == 0 && len(r.Rules) == 0
}

// hasRules reports whether there may be rules in a rule.
func hasRules(r api.Rule) bool {
	return r.Kind == api.RuleMedia || r.Kind == api.RuleSupports || r.Kind == api.RuleLayer
}

func isNoCond(c api.Cond) bool {
	return c.Kind == 0 && c.Name == "" && c.Num == 0 && len(c.List) == 0 && isNoDecl(c.Decl)
}

func isNoDecl(d api.Decl) bool { return d.Name == "" && len(d.Value) == 0 && !d.Important }

func areDecls(l []api.Decl) bool {
	if len(l) > api.MaxDecls {
		return false
	}
	for _, d := range l {
		if decl.Check(d) != api.OK {
			return false
		}
	}
	return true
}

// areNames reports whether all of a list are valid layers' names.
func areNames(l [][]string) bool {
	for _, name := range l {
		if !isName(name) {
			return false
		}
	}
	return true
}

func isName(name []string) bool {
	if len(name) == 0 || len(name) > api.MaxDepth {
		return false
	}
	for _, s := range name {
		if s == "" || len(s) > api.MaxName || strings.IndexByte(s, 0) >= 0 {
			return false
		}
	}
	return true
}
