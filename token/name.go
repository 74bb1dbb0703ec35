package token

import (
	"unicode/utf8"

	"vitrine/char"
)

// maxHex is how many hex digits of an escape count.
const maxHex = 6

// byteAt returns the byte at i, or 0 at the end: no byte 0 is part of a token's form, but that of an escape.
func byteAt(s string, i int) byte {
	if i < len(s) {
		return s[i]
	}
	return 0
}

func behindSpaces(s string, i int) int {
	for char.IsSpace(byteAt(s, i)) {
		i++
	}
	return i
}

// hexDigit returns the value of a hex digit, and whether it is one.
func hexDigit(b byte) (rune, bool) {
	switch {
	case char.IsDigit(b):
		return rune(b - '0'), true
	case 'a' <= b && b <= 'f':
		return rune(b-'a') + 10, true
	case 'A' <= b && b <= 'F':
		return rune(b-'A') + 10, true
	}
	return 0, false
}

// escapeStarts tells of a backslash at the end, too, that it is an escape.
func escapeStarts(s string, i int) bool {
	return byteAt(s, i) == '\\' && byteAt(s, i+1) != '\n'
}

// appendEscape appends the bytes for which the escape at i stands, and returns where it ends.
func appendEscape(b []byte, s string, i int) ([]byte, int) {
	i++
	if i == len(s) {
		return utf8.AppendRune(b, utf8.RuneError), i
	}
	if _, hex := hexDigit(s[i]); !hex {
		return append(b, s[i]), i + 1
	}
	var code rune
	for range maxHex {
		digit, hex := hexDigit(byteAt(s, i))
		if !hex {
			break
		}
		code = code<<4 | digit
		i++
	}
	if char.IsSpace(byteAt(s, i)) {
		i++
	}
	// AppendRune replaces what is no code point, but 0 is one.
	if code == 0 {
		code = utf8.RuneError
	}
	return utf8.AppendRune(b, code), i
}

func nameStarts(s string, i int) bool {
	if byteAt(s, i) != '-' {
		return char.StartsName(byteAt(s, i)) || escapeStarts(s, i)
	}
	next := byteAt(s, i+1)
	return char.StartsName(next) || next == '-' || escapeStarts(s, i+1)
}

func nameGoesOn(s string, i int) bool {
	return char.IsOfName(byteAt(s, i)) || escapeStarts(s, i)
}

// readName returns the name at i, and where it ends.
func readName(s string, i int) (name string, end int) {
	var b []byte
	for nameGoesOn(s, i) {
		if s[i] == '\\' {
			b, i = appendEscape(b, s, i)
			continue
		}
		b = append(b, s[i])
		i++
	}
	return string(b), i
}
