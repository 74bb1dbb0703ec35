package decl

import (
	"strings"

	"vitrine/api"
	"vitrine/glue"
	"vitrine/input"
	"vitrine/nest"
)

// customStart is what the names of custom properties begin with.
const customStart = "--"

func isCustom(name string) bool { return strings.HasPrefix(name, customStart) }

// isName reports whether a text is a property's name.
func isName(s string) bool {
	if s == "" || len(s) > api.MaxName || strings.IndexByte(s, 0) >= 0 {
		return false
	}
	if isCustom(s) {
		return s != customStart
	}
	return s == input.Lower(s)
}

// isValue reports whether values may be those of a declaration with some name.
func isValue(v []api.Value) bool {
	tokens, e := nest.Flat(v)
	if e != api.OK || glue.Check(tokens) != api.OK {
		return false
	}
	if len(v) > 0 && (isSpace(v[0]) || isSpace(v[len(v)-1])) {
		return false
	}
	for _, x := range v {
		if x.Token.Kind == api.TokSemicolon || isBang(x.Token) {
			return false
		}
	}
	return !hasCloser(v)
}

func isSpace(x api.Value) bool { return x.Token.Kind == api.TokSpace }

// hasCloser reports whether a closer is a value, in a block or not.
func hasCloser(v []api.Value) bool {
	for _, x := range v {
		switch x.Token.Kind {
		case api.TokCloseSquare, api.TokCloseParen, api.TokCloseCurly:
			return true
		}
		if hasCloser(x.List) {
			return true
		}
	}
	return false
}
