package anb

import (
	"strings"

	"vitrine/api"
	"vitrine/char"
	"vitrine/input"
)

// thousand is 1, in the thousandths that values of tokens are.
const thousand = 1000

// read returns the progression that tokens are, and whether they are one.
func read(l []api.Token) (api.Anb, bool) {
	l = trimmed(l)
	if a, ok := alone(l); ok {
		return a, true
	}
	a, name, behind, ok := cutHead(l)
	if !ok {
		return api.Anb{}, false
	}
	more, ok := strings.CutPrefix(name, "n")
	if !ok {
		return api.Anb{}, false
	}
	b, ok := readAddend(more, behind)
	if !ok {
		return api.Anb{}, false
	}
	return api.Anb{A: a, B: b}, true
}

// alone returns the progression that one token without an "n" is, and whether tokens are such a one.
func alone(l []api.Token) (api.Anb, bool) {
	if len(l) == 1 && l[0].Kind == api.TokIdent {
		switch input.Lower(l[0].Text) {
		case "odd":
			return api.Anb{A: 2, B: 1}, true
		case "even":
			return api.Anb{A: 2}, true
		}
	}
	b, ok := number(l)
	return api.Anb{B: b}, ok
}

// cutHead returns the factor that tokens begin with, the name or unit that has to begin with the "n" of a head, the tokens behind it, and whether there may be a head at all.
func cutHead(l []api.Token) (int64, string, []api.Token, bool) {
	if len(l) == 0 {
		return 0, "", nil, false
	}
	switch {
	case l[0].Kind == api.TokIdent:
		name, minus := strings.CutPrefix(input.Lower(l[0].Text), "-")
		if minus {
			return -1, name, l[1:], true
		}
		return 1, name, l[1:], true
	case l[0].Kind == api.TokDimension:
		a, ok := whole(l[0])
		return a, input.Lower(l[0].Unit), l[1:], ok
	case isDelim(l[0], "+") && len(l) > 1 && l[1].Kind == api.TokIdent:
		return 1, input.Lower(l[1].Text), l[2:], true
	}
	return 0, "", nil, false
}

// readAddend returns the B that more of a name or unit, behind its "n", and the tokens behind it tell, and whether they tell one.
func readAddend(more string, behind []api.Token) (int64, bool) {
	if more == "" {
		return readSigned(behind)
	}
	digits, minus := strings.CutPrefix(more, "-")
	switch {
	case !minus:
		return 0, false
	case digits == "":
		return negated(unsigned(behind))
	case len(behind) > 0:
		return 0, false
	}
	return negated(readDigits(digits))
}

// readSigned returns the B of tokens behind a whole "n", where there may be none.
func readSigned(l []api.Token) (int64, bool) {
	l = behindSpaces(l)
	switch {
	case len(l) == 0:
		return 0, true
	case isDelim(l[0], "+"):
		return unsigned(l[1:])
	case isDelim(l[0], "-"):
		return negated(unsigned(l[1:]))
	}
	return number(l)
}

// unsigned returns the number behind a sign and spaces, and whether there is just this: a second minus is none.
func unsigned(l []api.Token) (int64, bool) {
	n, ok := number(behindSpaces(l))
	if n < 0 {
		return 0, false
	}
	return n, ok
}

// number returns the value of a whole number, and whether tokens are one.
func number(l []api.Token) (int64, bool) {
	if len(l) != 1 || l[0].Kind != api.TokNumber {
		return 0, false
	}
	return whole(l[0])
}

// whole returns the value of a token, and whether it is a whole one that a progression may have: tokens that come from no text may say so by their flag alone.
func whole(t api.Token) (int64, bool) {
	n := t.Num / thousand
	if !t.Flag || t.Num%thousand != 0 || !isWithin(n) {
		return 0, false
	}
	return n, true
}

// readDigits returns the number of digits, and whether there is nothing else. It is held as the value of a token would be, so that spaces around the sign do not count.
func readDigits(s string) (int64, bool) {
	var n int64
	for i := range len(s) {
		if !char.IsDigit(s[i]) {
			return 0, false
		}
		n = min(10*n+int64(s[i]-'0'), api.MaxWhole)
	}
	return n, true
}

func negated(n int64, ok bool) (int64, bool) { return -n, ok }

func isDelim(t api.Token, s string) bool { return t.Kind == api.TokDelim && t.Text == s }

// trimmed returns the tokens without spaces at both ends.
func trimmed(l []api.Token) []api.Token {
	l = behindSpaces(l)
	for len(l) > 0 && l[len(l)-1].Kind == api.TokSpace {
		l = l[:len(l)-1]
	}
	return l
}

func behindSpaces(l []api.Token) []api.Token {
	for len(l) > 0 && l[0].Kind == api.TokSpace {
		l = l[1:]
	}
	return l
}
