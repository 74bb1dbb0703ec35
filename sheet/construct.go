package sheet

import "vitrine/api"

// construct is an at-rule or a style rule, whether it gives a rule or not.
type construct struct {
	isAt     bool
	name     string // that of an at-rule
	prelude  []api.Value
	hasBlock bool
	inner    []api.Value // what is in its block
}

// constructsOf returns the constructs of values, between which some do not count.
func constructsOf(v []api.Value, isBetween func(x api.Value) bool) []construct {
	var l []construct
	for len(v) > 0 {
		if isBetween(v[0]) {
			v = v[1:]
			continue
		}
		c, behind := cutConstruct(v)
		l = append(l, c)
		v = behind
	}
	return l
}

// cutConstruct returns the construct that values begin with, and what is behind it.
func cutConstruct(v []api.Value) (construct, []api.Value) {
	var c construct
	if v[0].Token.Kind == api.TokAt {
		c.isAt, c.name = true, v[0].Token.Text
		v = v[1:]
	}
	for i, x := range v {
		c.hasBlock = x.Token.Kind == api.TokOpenCurly
		if c.hasBlock || c.isAt && x.Token.Kind == api.TokSemicolon {
			// The list of a semicolon is empty.
			c.prelude, c.inner = v[:i], x.List
			return c, v[i+1:]
		}
	}
	c.prelude = v
	return c, nil
}

func isSpace(x api.Value) bool { return x.Token.Kind == api.TokSpace }

// isBetweenAtTop reports whether a value does not count between constructs at the top of a sheet.
func isBetweenAtTop(x api.Value) bool {
	return isSpace(x) || x.Token.Kind == api.TokCDO || x.Token.Kind == api.TokCDC
}
