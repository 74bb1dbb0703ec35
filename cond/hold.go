package cond

import "vitrine/api"

// thousand makes a number of what is whole.
const thousand = 1000

// appendDecls appends the declarations of a valid condition in the order of its text.
func appendDecls(l []api.Decl, c api.Cond) []api.Decl {
	if c.Kind == api.CondDecl {
		return append(l, c.Decl)
	}
	for _, x := range c.List {
		l = appendDecls(l, x)
	}
	return l
}

// holds reports whether a valid condition holds on a screen with a width in thousandths, by as many truth values as it has declarations.
func holds(c api.Cond, width int64, yes []bool) bool {
	var is func(c api.Cond) bool
	is = func(c api.Cond) bool {
		switch c.Kind {
		case api.CondMedia:
			return c.Name == all || c.Name == screen
		case api.CondMin:
			return width >= c.Num
		case api.CondMax:
			return width <= c.Num
		case api.CondDecl:
			first := yes[0]
			yes = yes[1:]
			return first
		}
		// All of a list are asked, so that each declaration gets the truth value that is its own.
		count := 0
		for _, x := range c.List {
			if is(x) {
				count++
			}
		}
		switch c.Kind {
		case api.CondAll:
			return count == len(c.List)
		case api.CondAny:
			return count > 0
		}
		return c.Kind == api.CondNot && count == 0
	}
	return is(c)
}
