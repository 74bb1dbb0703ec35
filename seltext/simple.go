package seltext

import (
	"slices"

	"vitrine/anb"
	"vitrine/api"
	"vitrine/input"
	"vitrine/nest"
)

const (
	// operators has what the operators of attributes begin with, in the order of their numbers, from AttrIs on.
	operators = "=~|^$*"
	// equals is what they end with.
	equals = '='
	// noKind is no kind of a simple selector.
	noKind     uint8 = 0
	firstChild       = "first-child"
	lastChild        = "last-child"
)

// names has the names of pseudo-classes, in the order of their kinds, from SimLink on.
var names = [...]string{"link", "visited", "any-link", "root", "empty", "nth-child", "nth-last-child", "is", "where", "not", "has"}

// cutSimple returns the simple selector that values begin with, what is behind it, and whether they begin with one.
func cutSimple(v []api.Value, at level) (api.Simple, []api.Value, bool) {
	switch {
	case startsWith(v, api.TokHash) && v[0].Token.Flag:
		return api.Simple{Kind: api.SimId, Name: v[0].Token.Text}, v[1:], true
	case startsWith(v, api.TokOpenSquare):
		s, ok := readAttr(v[0].List)
		return s, v[1:], ok
	case startsWithDelim(v, '.') && startsWith(v[1:], api.TokIdent):
		return api.Simple{Kind: api.SimClass, Name: v[1].Token.Text}, v[2:], true
	case startsWith(v, api.TokColon) && startsWith(v[1:], api.TokIdent):
		s, ok := readWord(v[1].Token.Text)
		return s, v[2:], ok
	case startsWith(v, api.TokColon) && startsWith(v[1:], api.TokFunction):
		s, ok := readFunction(v[1], at)
		return s, v[2:], ok
	}
	return api.Simple{}, nil, false
}

// readAttr returns the simple selector that values in square brackets are, and whether they are one.
func readAttr(v []api.Value) (api.Simple, bool) {
	v = trimmed(v)
	if !startsWith(v, api.TokIdent) {
		return api.Simple{}, false
	}
	s := api.Simple{Kind: api.SimAttr, Name: input.Lower(v[0].Token.Text)}
	v = behindSpaces(v[1:])
	if len(v) == 0 {
		return s, true
	}
	op, v := cutOperator(v)
	if op == api.AttrHas || !startsWith(v, api.TokIdent) && !startsWith(v, api.TokString) {
		return api.Simple{}, false
	}
	fold, ok := readFold(behindSpaces(v[1:]))
	if !ok {
		return api.Simple{}, false
	}
	s.Op, s.Value, s.Fold = op, v[0].Token.Text, fold
	return s, true
}

// cutOperator returns the operator that values begin with, or AttrHas, and what is behind it and spaces.
func cutOperator(v []api.Value) (uint8, []api.Value) {
	op := api.AttrHas
	for i := range len(operators) {
		if startsWithDelim(v, operators[i]) {
			op = api.AttrIs + uint8(i)
		}
	}
	if op > api.AttrIs {
		v = v[1:]
	}
	if op == api.AttrHas || !startsWithDelim(v, equals) {
		return api.AttrHas, nil
	}
	return op, behindSpaces(v[1:])
}

// readFold returns whether letters do not count, as what is behind an attribute's value says, and whether it says this alone.
func readFold(v []api.Value) (fold, ok bool) {
	if len(v) == 0 {
		return false, true
	}
	if len(v) > 1 || v[0].Token.Kind != api.TokIdent {
		return false, false
	}
	fold = input.Alike(v[0].Token.Text, "i")
	return fold, fold || input.Alike(v[0].Token.Text, "s")
}

// readWord returns the pseudo-class that a name alone is, and whether it is one.
func readWord(name string) (api.Simple, bool) {
	kind := kindOf(name)
	switch {
	case api.SimLink <= kind && kind <= api.SimEmpty:
		return api.Simple{Kind: kind}, true
	case input.Alike(name, firstChild):
		return api.Simple{Kind: api.SimNth, Anb: first()}, true
	case input.Alike(name, lastChild):
		return api.Simple{Kind: api.SimNthLast, Anb: first()}, true
	}
	return api.Simple{}, false
}

// readFunction returns the pseudo-class that a function is in a list that stands there, and whether it is one.
func readFunction(x api.Value, at level) (api.Simple, bool) {
	s := api.Simple{Kind: kindOf(x.Token.Text)}
	inner, ok := at.inside(s.Kind), false
	switch s.Kind {
	case api.SimNth, api.SimNthLast:
		return readNth(s, x.List, inner)
	case api.SimIs, api.SimWhere:
		s.List, ok = readList(x.List, inner, true)
	case api.SimNot, api.SimHas:
		s.List, ok = readList(x.List, inner, false)
	}
	return s, ok
}

// readNth returns a simple selector with the progression that values begin with, and the list behind it, if one is told, which stands there, and whether there is nothing else.
func readNth(s api.Simple, v []api.Value, at level) (api.Simple, bool) {
	if of := slices.IndexFunc(v, isOf); of >= 0 {
		s.List, s.Of = readList(v[of+1:], at, false)
		if !s.Of {
			return api.Simple{}, false
		}
		v = v[:of]
	}
	tokens, _ := nest.Flat(v)
	a, e := anb.Of(tokens)
	s.Anb = a
	return s, e == api.OK
}

func isOf(x api.Value) bool {
	return x.Token.Kind == api.TokIdent && input.Alike(x.Token.Text, "of")
}

// kindOf returns the kind of the pseudo-classes with a name, or noKind.
func kindOf(name string) uint8 {
	for i := range len(names) {
		if input.Alike(name, names[i]) {
			return api.SimLink + uint8(i)
		}
	}
	return noKind
}

// first is the progression of the first place alone.
func first() api.Anb { return api.Anb{B: 1} }
