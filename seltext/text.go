package seltext

import (
	"vitrine/anb"
	"vitrine/api"
	"vitrine/glue"
)

func isLong(text []byte) bool { return len(text) > api.MaxText }

// appendList appends the text of a valid list.
func appendList(b []byte, l []api.Complex) []byte {
	for i, c := range l {
		if i > 0 {
			b = append(b, ", "...)
		}
		b = appendComplex(b, c)
	}
	return b
}

func appendComplex(b []byte, c api.Complex) []byte {
	if c.Lead > api.CombDescendant {
		b = append(b, combs[c.Lead-api.CombChild], ' ')
	}
	for i := range len(c.Parts) {
		if i > 0 {
			b = appendComb(b, c.Combs[i-1])
		}
		b = appendCompound(b, c.Parts[i])
	}
	return b
}

// appendComb appends a combinator between compounds.
func appendComb(b []byte, comb uint8) []byte {
	b = append(b, ' ')
	if comb == api.CombDescendant {
		return b
	}
	return append(b, combs[comb-api.CombChild], ' ')
}

func appendCompound(b []byte, p api.Compound) []byte {
	switch p.Tag {
	case "":
	case all:
		b = append(b, all...)
	default:
		b = appendName(b, p.Tag)
	}
	for _, s := range p.Simples {
		// Selectors that share memory may be much more than is of use.
		if isLong(b) {
			break
		}
		b = appendSimple(b, s)
	}
	return b
}

// appendName appends a name of a valid list, which is too short to be an error.
func appendName(b []byte, name string) []byte {
	text, _ := glue.Name(name)
	return append(b, text...)
}

func appendSimple(b []byte, s api.Simple) []byte {
	switch s.Kind {
	case api.SimId:
		return appendName(append(b, '#'), s.Name)
	case api.SimClass:
		return appendName(append(b, '.'), s.Name)
	case api.SimAttr:
		return appendAttr(b, s)
	case api.SimNth, api.SimNthLast:
		return appendNth(append(b, ':'), s)
	}
	b = append(b, ':')
	b = append(b, names[s.Kind-api.SimLink]...)
	if s.Kind <= api.SimEmpty {
		return b
	}
	b = append(b, '(')
	b = appendList(b, s.List)
	return append(b, ')')
}

func appendAttr(b []byte, s api.Simple) []byte {
	b = appendName(append(b, '['), s.Name)
	if s.Op == api.AttrHas {
		return append(b, ']')
	}
	if s.Op != api.AttrIs {
		b = append(b, operators[s.Op-api.AttrIs])
	}
	value, _ := glue.One(api.Token{Kind: api.TokString, Text: s.Value})
	b = append(b, equals)
	b = append(b, value...)
	if s.Fold {
		b = append(b, " i"...)
	}
	return append(b, ']')
}

// appendNth appends a SimNth or SimNthLast behind its colon.
func appendNth(b []byte, s api.Simple) []byte {
	if s.Anb == first() && !s.Of {
		if s.Kind == api.SimNth {
			return append(b, firstChild...)
		}
		return append(b, lastChild...)
	}
	progression, _ := anb.Text(s.Anb)
	b = append(b, names[s.Kind-api.SimLink]...)
	b = append(b, '(')
	b = append(b, progression...)
	if s.Of {
		b = append(b, " of "...)
		b = appendList(b, s.List)
	}
	return append(b, ')')
}
