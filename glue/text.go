package glue

import (
	"strconv"
	"strings"

	"vitrine/api"
	"vitrine/char"
)

// appendToken appends the text of a token that can be written.
func appendToken(b []byte, t api.Token) []byte {
	switch t.Kind {
	case api.TokSpace:
		return append(b, ' ')
	case api.TokIdent:
		return appendName(b, t.Text)
	case api.TokFunction:
		return append(appendName(b, t.Text), '(')
	case api.TokAt:
		return appendName(append(b, '@'), t.Text)
	case api.TokHash:
		return appendHash(b, t)
	case api.TokString:
		return appendString(b, t.Text)
	case api.TokURL:
		return appendURL(b, t.Text)
	case api.TokNumber:
		return appendNumber(b, t.Num, t.Flag)
	case api.TokPercent:
		return append(appendNumber(b, t.Num, isWhole(t.Num)), '%')
	case api.TokDimension:
		return appendUnit(appendNumber(b, t.Num, t.Flag), t.Unit)
	case api.TokDelim:
		return append(b, t.Text...)
	case api.TokCDO:
		return append(b, "<!--"...)
	case api.TokCDC:
		return append(b, "-->"...)
	}
	return append(b, marks[t.Kind-api.TokColon])
}

// appendEscape appends an escape of a byte.
func appendEscape(b []byte, c byte) []byte {
	const base = 16
	b = append(b, '\\')
	if '!' <= c && c <= '~' && !char.IsDigit(c) && !char.IsLetter(c) {
		return append(b, c)
	}
	// The blank keeps what follows out of the escape.
	return append(strconv.AppendInt(b, int64(c), base), ' ')
}

// appendName appends a text as a name.
func appendName(b []byte, s string) []byte {
	return appendNameBut(b, s, obstacle(s))
}

// appendNameBut appends the bytes of a name, with escapes of those that are none of a name, and of the one at an index.
func appendNameBut(b []byte, s string, escaped int) []byte {
	for i := range len(s) {
		if i != escaped && char.IsOfName(s[i]) {
			b = append(b, s[i])
		} else {
			b = appendEscape(b, s[i])
		}
	}
	return b
}

func appendHash(b []byte, t api.Token) []byte {
	b = append(b, '#')
	if !t.Flag {
		// No name may start here: the obstacle stays.
		return appendNameBut(b, t.Text, none)
	}
	return appendName(b, t.Text)
}

// appendUnit appends a unit behind its number, whose exponent it must not look like.
func appendUnit(b []byte, unit string) []byte {
	if looksLikeExponent(unit) {
		return appendNameBut(b, unit, 0)
	}
	return appendName(b, unit)
}

func looksLikeExponent(unit string) bool {
	if unit[0] != 'e' && unit[0] != 'E' {
		return false
	}
	return startsWithDigit(unit[1:]) || startsWithMinusDigit(unit[1:])
}

func appendString(b []byte, s string) []byte {
	const escaped = "\n\f\r\"\\"
	b = append(b, '"')
	for i := range len(s) {
		if strings.IndexByte(escaped, s[i]) >= 0 {
			b = appendEscape(b, s[i])
		} else {
			b = append(b, s[i])
		}
	}
	return append(b, '"')
}

func appendURL(b []byte, s string) []byte {
	// All bytes up to the blank are escaped, too.
	const escaped = "\"'()\\\x7f"
	b = append(b, "url("...)
	for i := range len(s) {
		if s[i] <= ' ' || strings.IndexByte(escaped, s[i]) >= 0 {
			b = appendEscape(b, s[i])
		} else {
			b = append(b, s[i])
		}
	}
	return append(b, ')')
}

// appendNumber appends a number of thousandths: a whole one without a point.
func appendNumber(b []byte, n int64, whole bool) []byte {
	if n < 0 {
		b = append(b, '-')
		n = -n
	}
	b = strconv.AppendInt(b, n/thousand, 10)
	if whole {
		return b
	}
	b = append(b, '.')
	for rest := n % thousand; ; {
		rest *= 10
		b = append(b, '0'+byte(rest/thousand))
		rest %= thousand
		if rest == 0 {
			return b
		}
	}
}
