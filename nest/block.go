package nest

import "vitrine/api"

// none is the closer of a token that is no opener.
const none uint8 = 0

// closerOf returns the kind of a token's closer, or none.
func closerOf(t api.Token) uint8 {
	switch t.Kind {
	case api.TokOpenSquare:
		return api.TokCloseSquare
	case api.TokOpenParen, api.TokFunction:
		return api.TokCloseParen
	case api.TokOpenCurly:
		return api.TokCloseCurly
	}
	return none
}

func isOpener(t api.Token) bool { return closerOf(t) != none }

// extent is the memory of a list.
type extent struct {
	first *api.Value
	count int
}

func extentOf(v []api.Value) extent {
	if len(v) == 0 {
		return extent{}
	}
	return extent{&v[0], len(v)}
}

// isDeeper reports whether values have a greater depth than most.
func isDeeper(v []api.Value, most int) bool {
	// Blocks may share lists, so that there are more ways to one than could ever be gone. A list is looked at again only with less room than it had.
	rooms := map[extent]int{}
	var look func(v []api.Value, room int) bool
	look = func(v []api.Value, room int) bool {
		if room < 0 {
			return true
		}
		at := extentOf(v)
		if had, ok := rooms[at]; ok && had <= room {
			return false
		}
		rooms[at] = room
		for _, x := range v {
			if isOpener(x.Token) && look(x.List, room-1) {
				return true
			}
		}
		return false
	}
	return look(v, most)
}

// depth returns the depth of values that are not too deep.
func depth(v []api.Value) int {
	deepest := 0
	for _, x := range v {
		if isOpener(x.Token) {
			deepest = max(deepest, 1+depth(x.List))
		}
	}
	return deepest
}

// roomBehind returns how much of a room for tokens is left behind those of values, or less than 0 if they have no room. It goes no further than the room.
func roomBehind(v []api.Value, room int) int {
	for _, x := range v {
		if room < 0 {
			break
		}
		room--
		if isOpener(x.Token) {
			// One more is for the closer.
			room = roomBehind(x.List, room-1)
		}
	}
	return room
}

// isValid reports whether only blocks in a value have a list, and no block its own closer in it.
func isValid(x api.Value) bool {
	closer := closerOf(x.Token)
	if closer == none {
		return len(x.List) == 0
	}
	for _, y := range x.List {
		if y.Token.Kind == closer || !isValid(y) {
			return false
		}
	}
	return true
}

// appendTokens appends the tokens of values.
func appendTokens(l []api.Token, v ...api.Value) []api.Token {
	for _, x := range v {
		l = append(l, x.Token)
		if isOpener(x.Token) {
			l = appendTokens(l, x.List...)
			l = append(l, api.Token{Kind: closerOf(x.Token)})
		}
	}
	return l
}

// copied returns values that share no lists with v.
func copied(v []api.Value) []api.Value {
	// Cut to no room at all, what is appended to has to go to new memory.
	c := append(v[:0:0], v...)
	for i := range c {
		c[i].List = copied(c[i].List)
	}
	return c
}
