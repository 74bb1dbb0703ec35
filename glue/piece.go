package glue

import (
	"slices"

	"vitrine/api"
	"vitrine/input"
	"vitrine/token"
)

const (
	comment = "/**/"
	// reach is how many pieces behind a token can take part in what it is, as each has a byte at least: "<" is no delim in front of "!--", and no token depends on more than three bytes behind it.
	reach = 3
)

func isURLFunction(t api.Token) bool {
	return t.Kind == api.TokFunction && input.Alike(t.Text, "url")
}

func isBackslash(t api.Token) bool {
	return t.Kind == api.TokDelim && t.Text == `\`
}

func startsWith(l []api.Token, kind uint8) bool {
	return len(l) > 0 && l[0].Kind == kind
}

// hasItsFollowers reports whether behind a token comes what it cannot be written without.
func hasItsFollowers(t api.Token, behind []api.Token) bool {
	switch {
	case isBackslash(t):
		return startsWith(behind, api.TokSpace)
	case isURLFunction(t):
		if startsWith(behind, api.TokSpace) {
			behind = behind[1:]
		}
		return startsWith(behind, api.TokString)
	}
	return true
}

// pieceEnd returns the index behind the piece that begins at i, of tokens that can be written.
func pieceEnd(l []api.Token, i int) int {
	switch {
	case isBackslash(l[i]):
		return i + 2
	case isURLFunction(l[i]):
		for l[i].Kind != api.TokString {
			i++
		}
	}
	return i + 1
}

// appendPiece appends the text of a piece.
func appendPiece(b []byte, piece []api.Token) []byte {
	if isBackslash(piece[0]) {
		// A blank would be escaped by the backslash.
		return append(b, '\\', '\n')
	}
	for _, t := range piece {
		b = appendToken(b, t)
	}
	return b
}

// start is where a piece starts: the index of its first token, and that of its first byte, or of the comment in front of it.
type start struct{ token, at int }

// writing is the text of tokens as far as it is written, with the starts of its pieces.
type writing struct {
	tokens []api.Token
	text   []byte
	starts []start
}

// addPiece writes the piece from first to end, with a comment in front if it would not be read as what it is.
func (w *writing) addPiece(first, end int) {
	s := start{first, len(w.text)}
	w.text = appendPiece(w.text, w.tokens[first:end])
	w.starts = append(w.starts, s)
	// The new piece does not change what is in front of the pieces within reach.
	from := w.starts[max(0, len(w.starts)-1-reach)]
	if isReadAs(string(w.text[from.at:]), w.tokens[from.token:end]) {
		return
	}
	w.text = slices.Insert(w.text, s.at, []byte(comment)...)
}

func isReadAs(s string, l []api.Token) bool {
	got, e := token.Tokens(s)
	return e == api.OK && slices.Equal(got, l)
}
