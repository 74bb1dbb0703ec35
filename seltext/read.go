package seltext

import (
	"vitrine/api"
	"vitrine/input"
	"vitrine/nest"
)

const (
	// noComb is no combinator.
	noComb uint8 = 0
	// combs has the combinators that are a delim, in the order of their numbers, from CombChild on.
	combs = ">+~"
	// all is the tag of all elements.
	all = "*"
)

// readList returns the list that valid values are where it stands, and whether they are one. Parts that may not be there are left out of a forgiving one.
func readList(v []api.Value, at level, forgiving bool) ([]api.Complex, bool) {
	parts, _ := nest.Split(v, api.TokComma)
	var l []api.Complex
	for _, part := range parts {
		c, ok := readComplex(part, at)
		if ok {
			l = append(l, c)
		} else if !forgiving {
			return nil, false
		}
	}
	return l, true
}

// readComplex returns the complex selector that valid values are, and whether they are one that may be in a list that stands there.
func readComplex(v []api.Value, at level) (api.Complex, bool) {
	var c api.Complex
	v = trimmed(v)
	if at.relative {
		c.Lead, v = cutComb(v)
		if c.Lead == noComb {
			c.Lead = api.CombDescendant
		}
	}
compounds:
	for {
		var p api.Compound
		p, v = cutCompound(v, at)
		c.Parts = append(c.Parts, p)
		comb, behind := cutComb(v)
		switch {
		case len(v) == 0:
			break compounds
		case comb == noComb:
			return api.Complex{}, false
		}
		c.Combs = append(c.Combs, comb)
		v = behind
	}
	return c, isValid([]api.Complex{c}, at)
}

// cutComb returns the combinator that values begin with, or noComb, and what is behind it.
func cutComb(v []api.Value) (uint8, []api.Value) {
	behind := behindSpaces(v)
	for i := range len(combs) {
		if startsWithDelim(behind, combs[i]) {
			return api.CombChild + uint8(i), behindSpaces(behind[1:])
		}
	}
	if len(behind) < len(v) {
		return api.CombDescendant, behind
	}
	return noComb, v
}

// cutCompound returns the compound that values begin with, and what is behind it. If they begin with none, it has nothing in it, which is not valid.
func cutCompound(v []api.Value, at level) (api.Compound, []api.Value) {
	var p api.Compound
	switch {
	case startsWith(v, api.TokIdent):
		p.Tag = input.Lower(v[0].Token.Text)
		v = v[1:]
	case startsWithDelim(v, all[0]):
		p.Tag = all
		v = v[1:]
	}
	for {
		s, behind, ok := cutSimple(v, at)
		if !ok {
			return p, v
		}
		p.Simples = append(p.Simples, s)
		v = behind
	}
}

// trimmed returns a trimmed copy of valid values.
func trimmed(v []api.Value) []api.Value {
	v, _ = nest.Trim(v)
	return v
}

func behindSpaces(v []api.Value) []api.Value {
	for startsWith(v, api.TokSpace) {
		v = v[1:]
	}
	return v
}

func startsWith(v []api.Value, kind uint8) bool {
	return len(v) > 0 && v[0].Token.Kind == kind
}

func startsWithDelim(v []api.Value, b byte) bool {
	return startsWith(v, api.TokDelim) && v[0].Token.Text == string([]byte{b})
}
