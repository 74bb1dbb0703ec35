package glue

import (
	"strings"

	"vitrine/api"
	"vitrine/char"
)

const (
	// marks has the bytes of the tokens that are one by themselves, in the order of their kinds, from TokColon on.
	marks = ":;,[](){}"
	// thousand is how many thousandths make 1.
	thousand = 1000
	// none is an index that no byte has.
	none = -1
)

// used returns what its kind uses of a token.
func used(t api.Token) api.Token {
	switch t.Kind {
	case api.TokIdent, api.TokFunction, api.TokAt, api.TokString, api.TokURL, api.TokDelim:
		return api.Token{Kind: t.Kind, Text: t.Text}
	case api.TokHash:
		return api.Token{Kind: t.Kind, Text: t.Text, Flag: t.Flag}
	case api.TokNumber:
		return api.Token{Kind: t.Kind, Num: t.Num, Flag: t.Flag}
	case api.TokPercent:
		return api.Token{Kind: t.Kind, Num: t.Num}
	case api.TokDimension:
		return api.Token{Kind: t.Kind, Num: t.Num, Unit: t.Unit, Flag: t.Flag}
	}
	return api.Token{Kind: t.Kind}
}

// canBeWritten reports whether a token has the shape of its kind.
func canBeWritten(t api.Token) bool {
	if t != used(t) || strings.IndexByte(t.Text, 0) >= 0 || strings.IndexByte(t.Unit, 0) >= 0 {
		return false
	}
	switch t.Kind {
	case api.TokIdent, api.TokFunction, api.TokAt:
		return isName(t.Text)
	case api.TokHash:
		return isName(t.Text) && (t.Flag || obstacle(t.Text) != none)
	case api.TokDelim:
		return isDelim(t.Text)
	case api.TokNumber, api.TokPercent:
		return isNumber(t)
	case api.TokDimension:
		return isNumber(t) && isName(t.Unit)
	case api.TokBadString, api.TokBadURL:
		return false
	}
	return api.TokIdent <= t.Kind && t.Kind <= api.TokCloseCurly
}

func isName(s string) bool { return s != "" }

// obstacle returns the index of the byte of a name that, written as it is, would keep the name from starting, or none.
func obstacle(s string) int {
	switch {
	case s == "-" || startsWithDigit(s):
		return 0
	case startsWithMinusDigit(s):
		return 1
	}
	return none
}

func startsWithDigit(s string) bool { return s != "" && char.IsDigit(s[0]) }

func startsWithMinusDigit(s string) bool {
	return strings.HasPrefix(s, "-") && startsWithDigit(s[1:])
}

// isDelim reports whether a text is that of a delim: one byte that is not always part of another token, or cleaned away.
func isDelim(s string) bool {
	const lineFeeds = "\f\r"
	if len(s) != 1 {
		return false
	}
	b := s[0]
	return !char.IsSpace(b) && !char.IsQuote(b) && !char.StartsName(b) && !char.IsDigit(b) &&
		strings.IndexByte(lineFeeds+marks, b) < 0
}

func isNumber(t api.Token) bool {
	if t.Num < -api.MaxNumber || t.Num > api.MaxNumber {
		return false
	}
	return !t.Flag || isWhole(t.Num)
}

func isWhole(n int64) bool { return n%thousand == 0 }
