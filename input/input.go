// Package input is layer 1: see shared/doc/01-input.md.
package input

import "vitrine/api"

// replacement stands for a byte 0, which no later layer has to expect then.
const replacement = "\xef\xbf\xbd"

// A byte 0 becomes a whole replacement, so a clean text may be longer than the text it came from.
const maxClean = len(replacement) * api.MaxText

const (
	lineEnd        = '\n'
	carriageReturn = '\r'
	formFeed       = '\f'
)

// Clean cleans a text.
func Clean(s string) (string, api.Errno) {
	if len(s) > api.MaxText {
		return "", api.ErrLong
	}
	clean := make([]byte, 0, len(s))
	for i := 0; i < len(s); i++ {
		switch s[i] {
		case 0:
			clean = append(clean, replacement...)
		case formFeed:
			clean = append(clean, lineEnd)
		case carriageReturn:
			// The line end of a CR LF is written when its LF is met.
			if !startsWithLineEnd(s[i+1:]) {
				clean = append(clean, lineEnd)
			}
		default:
			clean = append(clean, s[i])
		}
	}
	return string(clean), api.OK
}

func startsWithLineEnd(s string) bool {
	return len(s) > 0 && s[0] == lineEnd
}

// Check checks whether a text is clean.
func Check(s string) api.Errno {
	if len(s) > maxClean {
		return api.ErrLong
	}
	for i := 0; i < len(s); i++ {
		if s[i] == 0 || s[i] == formFeed || s[i] == carriageReturn {
			return api.ErrBad
		}
	}
	return api.OK
}

// Lines returns how many lines a clean text has.
func Lines(s string) (int, api.Errno) {
	// The end of a text is on its last line.
	line, _, e := Place(s, len(s))
	return line, e
}

// Place returns the place of a byte of a clean text.
func Place(s string, at int) (line, column int, e api.Errno) {
	if e := Check(s); e != api.OK {
		return 0, 0, e
	}
	if at < 0 || at > len(s) {
		return 0, 0, api.ErrArg
	}
	line, column = 1, 1
	for i := range at {
		if s[i] == lineEnd {
			line, column = line+1, 1
		} else {
			column++
		}
	}
	return line, column, api.OK
}

// Lower returns a text in small letters.
func Lower(s string) string {
	lower := []byte(s)
	for i, b := range lower {
		lower[i] = lowerByte(b)
	}
	return string(lower)
}

// Only A to Z have small letters here: bytes of 128 and more stay as they are, whatever letters they are part of.
func lowerByte(b byte) byte {
	if 'A' <= b && b <= 'Z' {
		return b + ('a' - 'A')
	}
	return b
}

// Alike reports whether two texts are the same in small letters.
func Alike(a, b string) bool {
	if len(a) != len(b) {
		return false
	}
	for i := range len(a) {
		if lowerByte(a[i]) != lowerByte(b[i]) {
			return false
		}
	}
	return true
}
