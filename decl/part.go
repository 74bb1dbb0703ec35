package decl

import (
	"vitrine/api"
	"vitrine/glue"
	"vitrine/input"
	"vitrine/nest"
)

// important is the word of the mark, behind its "!".
const important = "important"

// read returns the declaration that valid values are, as one part, and whether they are one.
func read(v []api.Value) (api.Decl, bool) {
	name, behind, ok := cutName(trimmed(v))
	if !ok {
		return api.Decl{}, false
	}
	value, marked := cutMark(behind)
	d := api.Decl{Name: name, Value: trimmed(value), Important: marked}
	if Check(d) != api.OK {
		return api.Decl{}, false
	}
	return d, true
}

// trimmed returns a trimmed copy of valid values.
func trimmed(v []api.Value) []api.Value {
	v, _ = nest.Trim(v)
	return v
}

// cutName returns the name that values begin with, what is behind its colon, and whether they begin so.
func cutName(v []api.Value) (string, []api.Value, bool) {
	if len(v) == 0 || v[0].Token.Kind != api.TokIdent {
		return "", nil, false
	}
	name := v[0].Token.Text
	if !isCustom(name) {
		name = input.Lower(name)
	}
	colon := 1
	for colon < len(v) && isSpace(v[colon]) {
		colon++
	}
	if colon == len(v) || v[colon].Token.Kind != api.TokColon {
		return "", nil, false
	}
	return name, v[colon+1:], true
}

// cutMark returns what is in front of the mark at the end of values, which is no space, and whether there is one; without one, all of them.
func cutMark(v []api.Value) ([]api.Value, bool) {
	word := len(v) - 1
	if word < 0 || v[word].Token.Kind != api.TokIdent || !input.Alike(v[word].Token.Text, important) {
		return v, false
	}
	at := word - 1
	for at >= 0 && isSpace(v[at]) {
		at--
	}
	if at < 0 || !isBang(v[at].Token) {
		return v, false
	}
	return v[:at], true
}

func isBang(t api.Token) bool { return t.Kind == api.TokDelim && t.Text == "!" }

// write returns the text of a valid declaration.
func write(d api.Decl) (string, api.Errno) {
	name, e := glue.Name(d.Name)
	if e != api.OK {
		return "", e
	}
	value, e := nest.Text(d.Value)
	if e != api.OK {
		return "", e
	}
	text := name + ": " + value
	if d.Important {
		text += " !" + important
	}
	return text, api.OK
}
