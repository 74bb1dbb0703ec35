package round

import (
	"vitrine/api"
	"vitrine/cond"
	"vitrine/decl"
	"vitrine/glue"
	"vitrine/seltext"
)

// textOf returns the text of valid rules, each on a line of its own.
func textOf(l ...api.Rule) (string, api.Errno) {
	var w writing
	each(&w, l, "\n", w.rule)
	if w.long {
		return "", api.ErrLong
	}
	return string(w.text), api.OK
}

// writing is the text of valid rules, as far as it is written.
type writing struct {
	text []byte
	long bool // it would be too long
}

// add adds a text, unless it would be too long with it.
func (w *writing) add(s string) {
	w.long = w.long || len(w.text)+len(s) > api.MaxText
	if !w.long {
		w.text = append(w.text, s...)
	}
}

// take adds what another layer returned as the text of something valid, whose only error is that it is too long.
func (w *writing) take(s string, e api.Errno) {
	w.long = w.long || e != api.OK
	w.add(s)
}

// each adds what is in a list, one by one, with a text between them.
func each[T any](w *writing, l []T, between string, add func(x T)) {
	for i, x := range l {
		if w.long {
			return
		}
		if i > 0 {
			w.add(between)
		}
		add(x)
	}
}

func (w *writing) rule(r api.Rule) {
	switch r.Kind {
	case api.RuleStyle:
		w.take(seltext.Text(r.Selectors))
		w.add(" ")
		w.block(len(r.Decls), func() { w.take(decl.List(r.Decls)) })
	case api.RuleMedia:
		w.add("@media ")
		w.condition(r.Cond)
		w.group(r.Rules)
	case api.RuleSupports:
		w.add("@supports ")
		w.condition(r.Cond)
		w.group(r.Rules)
	case api.RuleLayer:
		w.add("@layer ")
		w.layers(r.Names)
		if len(r.Names) > 0 {
			w.add(" ")
		}
		w.group(r.Rules)
	case api.RuleNames:
		w.add("@layer ")
		w.layers(r.Names)
		w.add(";")
	}
}

// condition adds a condition and a blank, or nothing for one without a text.
func (w *writing) condition(c api.Cond) {
	before := len(w.text)
	w.take(cond.Text(c))
	if len(w.text) > before {
		w.add(" ")
	}
}

func (w *writing) layers(l [][]string) {
	each(w, l, ", ", func(names []string) {
		each(w, names, ".", func(name string) { w.take(glue.Name(name)) })
	})
}

func (w *writing) group(l []api.Rule) {
	w.block(len(l), func() { each(w, l, " ", w.rule) })
}

// block adds a curly block of so many things, which inner adds.
func (w *writing) block(count int, inner func()) {
	if count == 0 {
		w.add("{}")
		return
	}
	w.add("{ ")
	inner()
	w.add(" }")
}
