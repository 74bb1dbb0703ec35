package seltext

import (
	"strings"

	"vitrine/anb"
	"vitrine/api"
	"vitrine/input"
)

// level is where a list stands.
type level struct {
	inner    int  // how many lists it is in
	below    bool // it is the list of a SimHas, or in one
	relative bool // it is the list of a SimHas
}

// inside returns the level of the list of a simple selector, which is in a list of this level.
func (at level) inside(kind uint8) level {
	has := kind == api.SimHas
	return level{inner: at.inner + 1, below: at.below || has, relative: has}
}

// lister reports whether a list, which may be empty, is valid where it stands.
type lister func(l []api.Complex, at level) bool

// isValid reports whether a list, which may be empty, is valid where it stands, however many selectors there are.
func isValid(l []api.Complex, at level) bool {
	// Selectors may share lists, so that there are more ways to one than could ever be gone. Each list is looked at once for a level, as the first one that is not valid ends it all.
	type place struct {
		first *api.Complex
		count int
		at    level
	}
	seen := map[place]bool{}
	var isList lister
	isList = func(l []api.Complex, at level) bool {
		if at.inner > api.MaxInner {
			return false
		}
		if len(l) == 0 {
			return true
		}
		here := place{&l[0], len(l), at}
		if seen[here] {
			return true
		}
		seen[here] = true
		for _, c := range l {
			if !isComplex(c, at, isList) {
				return false
			}
		}
		return true
	}
	return isList(l, at)
}

func isComplex(c api.Complex, at level, isList lister) bool {
	if !isLead(c.Lead, at) {
		return false
	}
	if len(c.Parts) == 0 || len(c.Parts) > api.MaxComplex || len(c.Combs) != len(c.Parts)-1 {
		return false
	}
	for _, comb := range c.Combs {
		if !isComb(comb) {
			return false
		}
	}
	for _, p := range c.Parts {
		if !isCompound(p, at, isList) {
			return false
		}
	}
	return true
}

func isLead(lead uint8, at level) bool {
	if at.relative {
		return isComb(lead)
	}
	return lead == noComb
}

func isComb(comb uint8) bool { return api.CombDescendant <= comb && comb <= api.CombLater }

func isCompound(p api.Compound, at level, isList lister) bool {
	if p.Tag == "" && len(p.Simples) == 0 || len(p.Simples) > api.MaxComplex {
		return false
	}
	// "*" is a small name, too.
	if p.Tag != "" && !isSmallName(p.Tag) {
		return false
	}
	for _, s := range p.Simples {
		if !isSimple(s, at, isList) {
			return false
		}
	}
	return true
}

func isSimple(s api.Simple, at level, isList lister) bool {
	if !isBlank(withoutTold(s)) {
		return false
	}
	inner, isEmpty := at.inside(s.Kind), len(s.List) == 0
	switch s.Kind {
	case api.SimId, api.SimClass:
		return isName(s.Name)
	case api.SimAttr:
		return isAttr(s)
	case api.SimLink, api.SimVisited, api.SimAnyLink, api.SimRoot, api.SimEmpty:
		return true
	case api.SimNth, api.SimNthLast:
		return anb.Check(s.Anb) == api.OK && s.Of != isEmpty && (isEmpty || isList(s.List, inner))
	case api.SimIs, api.SimWhere:
		return isList(s.List, inner)
	case api.SimNot:
		return !isEmpty && isList(s.List, inner)
	case api.SimHas:
		return !isEmpty && !at.below && isList(s.List, inner)
	}
	return false
}

// withoutTold returns a simple selector without what its kind tells.
func withoutTold(s api.Simple) api.Simple {
	switch s.Kind {
	case api.SimId, api.SimClass:
		s.Name = ""
	case api.SimAttr:
		s.Name, s.Op, s.Value, s.Fold = "", 0, "", false
	case api.SimNth, api.SimNthLast:
		s.Anb, s.Of, s.List = api.Anb{}, false, nil
	case api.SimIs, api.SimWhere, api.SimNot, api.SimHas:
		s.List = nil
	}
	return s
}

// isBlank reports whether a simple selector has nothing but its kind.
func isBlank(s api.Simple) bool {
	return s.Name == "" && s.Op == 0 && s.Value == "" && !s.Fold && s.Anb == (api.Anb{}) && !s.Of && len(s.List) == 0
}

func isAttr(s api.Simple) bool {
	if !isSmallName(s.Name) || s.Op > api.AttrInside || len(s.Value) > api.MaxValue || hasZero(s.Value) {
		return false
	}
	return s.Op != api.AttrHas || s.Value == "" && !s.Fold
}

func isName(s string) bool { return s != "" && len(s) <= api.MaxName && !hasZero(s) }

func isSmallName(s string) bool { return isName(s) && s == input.Lower(s) }

func hasZero(s string) bool { return strings.IndexByte(s, 0) >= 0 }

// roomBehind returns how much of a room is left behind the complex selectors of a valid list, with those in other lists, or less than 0 if they have no room. It goes no further than the room.
func roomBehind(l []api.Complex, room int) int {
	room -= len(l)
	for _, c := range l {
		for _, p := range c.Parts {
			for _, s := range p.Simples {
				if room < 0 {
					return room
				}
				room = roomBehind(s.List, room)
			}
		}
	}
	return room
}
