package sheet

import (
	"vitrine/api"
	"vitrine/cond"
	"vitrine/decl"
	"vitrine/input"
	"vitrine/nest"
	"vitrine/seltext"
)

// rulesOf returns the rules of constructs, as many as a sheet has room for.
func rulesOf(l []construct) []api.Rule {
	r := reader{room: api.MaxRules}
	return r.rules(l)
}

// reader reads rules as long as there is room for more.
type reader struct{ room int }

func (r *reader) rules(l []construct) []api.Rule {
	var rules []api.Rule
	for _, c := range l {
		if r.room == 0 {
			break
		}
		rule, ok := c.head()
		if !ok {
			continue
		}
		r.room--
		if hasRules(rule) {
			rule.Rules = r.rules(constructsOf(c.inner, isSpace))
		}
		rules = append(rules, rule)
	}
	return rules
}

// head returns the rule that a construct gives, without the rules in it, and whether it gives one.
func (c construct) head() (api.Rule, bool) {
	switch {
	case !c.isAt:
		return c.style()
	case input.Alike(c.name, "media"):
		return c.conditional(api.RuleMedia, cond.Media)
	case input.Alike(c.name, "supports"):
		return c.conditional(api.RuleSupports, cond.Supports)
	case input.Alike(c.name, "layer"):
		return c.layer()
	}
	return api.Rule{}, false
}

func (c construct) style() (api.Rule, bool) {
	selectors, e := seltext.Of(c.prelude)
	if e != api.OK || !c.hasBlock {
		return api.Rule{}, false
	}
	// What is in a block of valid values is valid, so there is no error.
	decls, _ := decl.Of(c.inner)
	return api.Rule{Kind: api.RuleStyle, Selectors: selectors, Decls: decls}, true
}

// conditional returns a rule of a kind with the condition that the prelude is read as.
func (c construct) conditional(kind uint8, read func(v []api.Value) (api.Cond, api.Errno)) (api.Rule, bool) {
	condition, e := read(c.prelude)
	if e != api.OK || !c.hasBlock {
		return api.Rule{}, false
	}
	return api.Rule{Kind: kind, Cond: condition}, true
}

func (c construct) layer() (api.Rule, bool) {
	kind := api.RuleNames
	if c.hasBlock {
		kind = api.RuleLayer
		if v, _ := nest.Trim(c.prelude); len(v) == 0 {
			return api.Rule{Kind: kind}, true
		}
	}
	names, ok := readNames(c.prelude)
	r := api.Rule{Kind: kind, Names: names}
	if !ok || !isValid(r) {
		return api.Rule{}, false
	}
	return r, true
}

// readNames returns what the parts of values are if all of them are layers' names, valid or not, and whether they are.
func readNames(v []api.Value) ([][]string, bool) {
	parts, _ := nest.Split(v, api.TokComma)
	names := make([][]string, len(parts))
	for i, p := range parts {
		name, ok := readName(p)
		if !ok {
			return nil, false
		}
		names[i] = name
	}
	return names, true
}

// readName returns the layer's name, valid or not, that values are when they are trimmed, and whether they are one.
func readName(v []api.Value) ([]string, bool) {
	v, _ = nest.Trim(v)
	var name []string
	for i, x := range v {
		switch {
		case i%2 == 0 && x.Token.Kind == api.TokIdent:
			name = append(name, x.Token.Text)
		case i%2 == 0 || !isDot(x.Token):
			return nil, false
		}
	}
	// A dot is no end of a name.
	return name, len(v)%2 == 1
}

func isDot(t api.Token) bool { return t.Kind == api.TokDelim && t.Text == "." }
