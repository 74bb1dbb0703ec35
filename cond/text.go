package cond

import (
	"vitrine/api"
	"vitrine/decl"
	"vitrine/fixed"
	"vitrine/glue"
)

// writing is the text of a valid condition, as far as it is written.
type writing struct {
	text []byte
	long bool // it would be too long
}

// add adds texts, unless it would be too long with them.
func (w *writing) add(parts ...string) {
	for _, s := range parts {
		w.long = w.long || len(w.text)+len(s) > api.MaxText
		if w.long {
			return
		}
		w.text = append(w.text, s...)
	}
}

// list adds conditions one by one, with a text between them.
func (w *writing) list(l []api.Cond, between string, add func(c api.Cond)) {
	for i := range len(l) {
		if w.long {
			return
		}
		if i > 0 {
			w.add(between)
		}
		add(l[i])
	}
}

// media adds a media condition. The list of a CondAll is empty.
func (w *writing) media(c api.Cond) { w.list(c.List, ", ", w.query) }

func (w *writing) query(c api.Cond) {
	if c.Kind == api.CondNot {
		w.add(not, " ")
		c = c.List[0]
	}
	w.list(c.List, " "+and+" ", w.feature)
}

// feature adds a feature, or the kind of media in front of them.
func (w *writing) feature(c api.Cond) {
	// Valid names and numbers are too short to be an error.
	switch c.Kind {
	case api.CondMedia:
		name, _ := glue.Name(c.Name)
		w.add(name)
	case api.CondMin:
		number, _ := fixed.Write(c.Num)
		w.add("(", minWidth, ": ", number, px, ")")
	case api.CondMax:
		number, _ := fixed.Write(c.Num)
		w.add("(", maxWidth, ": ", number, px, ")")
	}
}

func (w *writing) supports(c api.Cond) {
	switch c.Kind {
	case api.CondAll:
		w.list(c.List, " "+and+" ", w.term)
	case api.CondAny:
		w.list(c.List, " "+or+" ", w.term)
	case api.CondNot:
		w.add(not, " ")
		w.term(c.List[0])
	default:
		w.term(c)
	}
}

func (w *writing) term(c api.Cond) {
	w.add("(")
	switch c.Kind {
	case api.CondDecl:
		text, e := decl.Text(c.Decl)
		w.long = w.long || e == api.ErrLong
		w.add(text)
	case api.CondNever:
		w.add("unknown")
	default:
		w.supports(c)
	}
	w.add(")")
}
