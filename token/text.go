package token

import (
	"vitrine/api"
	"vitrine/char"
)

// readString returns the string at i, where its quotation mark is, and where it ends.
func readString(s string, i int) (api.Token, int) {
	quote := s[i]
	i++
	var b []byte
	for i < len(s) {
		switch {
		case s[i] == quote:
			return api.Token{Kind: api.TokString, Text: string(b)}, i + 1
		case s[i] == '\n':
			return api.Token{Kind: api.TokBadString}, i
		case s[i] != '\\':
			b = append(b, s[i])
			i++
		case i+1 == len(s):
			i++
		case s[i+1] == '\n':
			i += 2
		default:
			b, i = appendEscape(b, s, i)
		}
	}
	return api.Token{Kind: api.TokString, Text: string(b)}, i
}

// spoilsURL reports whether a byte cannot stand in a url; a backslash is asked about only where no escape starts.
func spoilsURL(b byte) bool {
	switch b {
	case '"', '\'', '(', '\\', 11, 127:
		return true
	}
	return b <= 8 || 14 <= b && b <= 31
}

// readURL returns the url whose "(" is in front of i, and where it ends.
func readURL(s string, i int) (api.Token, int) {
	var b []byte
	i = behindSpaces(s, i)
url:
	for i < len(s) && s[i] != ')' {
		switch {
		case char.IsSpace(s[i]):
			i = behindSpaces(s, i)
			if i < len(s) && s[i] != ')' {
				break url
			}
		case escapeStarts(s, i):
			b, i = appendEscape(b, s, i)
		case spoilsURL(s[i]):
			break url
		default:
			b = append(b, s[i])
			i++
		}
	}
	if i == len(s) {
		return api.Token{Kind: api.TokURL, Text: string(b)}, i
	}
	if s[i] == ')' {
		return api.Token{Kind: api.TokURL, Text: string(b)}, i + 1
	}
	return api.Token{Kind: api.TokBadURL}, behindBadURL(s, i)
}

// behindBadURL returns where a bad url ends that has gone on up to i.
func behindBadURL(s string, i int) int {
	for i < len(s) {
		switch {
		case s[i] == ')':
			return i + 1
		case escapeStarts(s, i):
			_, i = appendEscape(nil, s, i)
		default:
			i++
		}
	}
	return i
}
