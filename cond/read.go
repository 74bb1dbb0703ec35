package cond

import (
	"vitrine/api"
	"vitrine/decl"
	"vitrine/input"
	"vitrine/nest"
)

const (
	minWidth = "min-width"
	maxWidth = "max-width"
	px       = "px"
	// all and screen are the kinds of media that a screen is.
	all    = "all"
	screen = "screen"
	// noKind is no kind of a condition.
	noKind uint8 = 0
)

// group returns a condition with a list.
func group(kind uint8, l ...api.Cond) api.Cond { return api.Cond{Kind: kind, List: l} }

// queryOf returns the query of a part of valid values.
func queryOf(part []api.Value) api.Cond {
	query, ok := readQuery(withoutSpaces(part))
	if !ok {
		return group(api.CondNot, group(api.CondAll, api.Cond{Kind: api.CondMedia, Name: all}))
	}
	return query
}

// readQuery returns the query that values without spaces are, and whether they are one.
func readQuery(v []api.Value) (api.Cond, bool) {
	negated := startsWithWord(v, not)
	marked := negated || startsWithWord(v, only)
	if marked {
		v = v[1:]
	}
	first, ok := readType(v)
	if !ok && !marked {
		first, ok = readFeature(v)
	}
	if !ok {
		return api.Cond{}, false
	}
	query := group(api.CondAll, first)
	for v = v[1:]; len(v) > 0; v = v[2:] {
		if !startsWithWord(v, and) {
			return api.Cond{}, false
		}
		feature, ok := readFeature(v[1:])
		if !ok {
			return api.Cond{}, false
		}
		query.List = append(query.List, feature)
	}
	if negated {
		return group(api.CondNot, query), true
	}
	return query, true
}

// readType returns the kind of media that the first value is, and whether it is one.
func readType(v []api.Value) (api.Cond, bool) {
	if !startsWith(v, api.TokIdent) {
		return api.Cond{}, false
	}
	c := api.Cond{Kind: api.CondMedia, Name: input.Lower(v[0].Token.Text)}
	return c, isType(c)
}

// readFeature returns the feature that the first value is, and whether it is one.
func readFeature(v []api.Value) (api.Cond, bool) {
	if !startsWith(v, api.TokOpenParen) {
		return api.Cond{}, false
	}
	in := withoutSpaces(v[0].List)
	if len(in) != 3 || in[1].Token.Kind != api.TokColon || !hasLength(in[2].Token) {
		return api.Cond{}, false
	}
	c := api.Cond{Num: in[2].Token.Num}
	switch {
	case startsWithWord(in, minWidth):
		c.Kind = api.CondMin
	case startsWithWord(in, maxWidth):
		c.Kind = api.CondMax
	}
	return c, isFeature(c)
}

// hasLength reports whether the number of a token is a length.
func hasLength(t api.Token) bool {
	switch t.Kind {
	case api.TokDimension:
		return input.Alike(t.Unit, px)
	case api.TokNumber:
		return t.Num == 0
	}
	return false
}

// readSupports returns the supports condition that valid values are, and whether they are one.
func readSupports(v []api.Value) (api.Cond, bool) {
	v = trimmed(v)
	if startsWithWord(v, not) {
		return readNot(v[1:])
	}
	first, ok := readTerm(v)
	if !ok || len(v) == 1 {
		return first, ok
	}
	rest := v[1:]
	kind, _ := cutJoint(rest)
	joined := group(kind, first)
	for len(rest) > 0 {
		joint, behind := cutJoint(rest)
		term, ok := readTerm(behind)
		if !ok || joint != kind {
			return api.Cond{}, false
		}
		joined.List, rest = append(joined.List, term), behind[1:]
	}
	return joined, true
}

// readNot returns the condition that trimmed values behind a word "not" make, and whether they make one.
func readNot(v []api.Value) (api.Cond, bool) {
	behind := behindSpaces(v)
	term, ok := readTerm(behind)
	if !ok || len(behind) > 1 || len(behind) == len(v) {
		return api.Cond{}, false
	}
	return group(api.CondNot, term), true
}

// cutJoint returns the kind of condition that the word which values begin with makes of the terms around it, and what is behind it. Without such a word, or without spaces on both sides of it, that is noKind, and nothing.
func cutJoint(v []api.Value) (uint8, []api.Value) {
	word := behindSpaces(v)
	kind := noKind
	switch {
	case startsWithWord(word, and):
		kind = api.CondAll
	case startsWithWord(word, or):
		kind = api.CondAny
	}
	if kind == noKind || len(word) == len(v) || !startsWith(word[1:], api.TokSpace) {
		return noKind, nil
	}
	return kind, behindSpaces(word[1:])
}

// readTerm returns the term that the first value is, and whether it is one.
func readTerm(v []api.Value) (api.Cond, bool) {
	never := api.Cond{Kind: api.CondNever}
	if startsWith(v, api.TokFunction) {
		return never, true
	}
	if !startsWith(v, api.TokOpenParen) {
		return api.Cond{}, false
	}
	if d, ok, _ := decl.One(v[0].List); ok {
		return api.Cond{Kind: api.CondDecl, Decl: d}, true
	}
	if c, ok := readSupports(v[0].List); ok {
		return c, true
	}
	return never, true
}

// trimmed returns a trimmed copy of valid values.
func trimmed(v []api.Value) []api.Value {
	v, _ = nest.Trim(v)
	return v
}

// withoutSpaces returns values, but none of the spaces among them.
func withoutSpaces(v []api.Value) []api.Value {
	var l []api.Value
	for _, x := range v {
		if x.Token.Kind != api.TokSpace {
			l = append(l, x)
		}
	}
	return l
}

func behindSpaces(v []api.Value) []api.Value {
	for startsWith(v, api.TokSpace) {
		v = v[1:]
	}
	return v
}

func startsWith(v []api.Value, kind uint8) bool {
	return len(v) > 0 && v[0].Token.Kind == kind
}

func startsWithWord(v []api.Value, word string) bool {
	return startsWith(v, api.TokIdent) && input.Alike(v[0].Token.Text, word)
}
