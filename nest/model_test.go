package nest_test

import (
	"math/rand"
	"slices"
	"testing"

	"vitrine/api"
	"vitrine/nest"
	"vitrine/token"
)

// The model: the definitions of the chapter, each as it stands there.

// modelCloser returns an opener's closer, and whether a token is an opener.
func modelCloser(t api.Token) (uint8, bool) {
	closer, opens := map[uint8]uint8{
		api.TokOpenSquare: api.TokCloseSquare,
		api.TokOpenParen:  api.TokCloseParen,
		api.TokOpenCurly:  api.TokCloseCurly,
		api.TokFunction:   api.TokCloseParen,
	}[t.Kind]
	return closer, opens
}

// modelValues returns the values of tokens, up to what ends them, with what is behind it, and the closers that are missing.
func modelValues(l []api.Token, ends func(t api.Token) bool) (v []api.Value, behind, missing []api.Token, ended bool) {
	for len(l) > 0 {
		t := l[0]
		l = l[1:]
		if ends(t) {
			return v, l, missing, true
		}
		x := leaf(t)
		if closer, opens := modelCloser(t); opens {
			var closed bool
			x.List, l, missing, closed = modelValues(l, func(t api.Token) bool { return t.Kind == closer })
			if !closed {
				missing = append(missing, mark(closer))
			}
		}
		v = append(v, x)
	}
	return v, nil, missing, false
}

func modelParse(l []api.Token) (v []api.Value, missing []api.Token) {
	v, _, missing, _ = modelValues(l, func(api.Token) bool { return false })
	return v, missing
}

func modelDepth(v []api.Value) int {
	depth := 0
	for _, x := range v {
		if _, opens := modelCloser(x.Token); opens {
			depth = max(depth, modelDepth(x.List)+1)
		}
	}
	return depth
}

func modelFlat(v []api.Value) []api.Token {
	var l []api.Token
	for _, x := range v {
		l = append(l, x.Token)
		if closer, opens := modelCloser(x.Token); opens {
			l = append(append(l, modelFlat(x.List)...), mark(closer))
		}
	}
	return l
}

func modelWellMade(v []api.Value) bool {
	for _, x := range v {
		closer, opens := modelCloser(x.Token)
		if !opens && len(x.List) > 0 {
			return false
		}
		if opens && (!modelWellMade(x.List) || slices.ContainsFunc(x.List, func(y api.Value) bool { return y.Token.Kind == closer })) {
			return false
		}
	}
	return true
}

func modelCheck(v []api.Value) api.Errno {
	switch {
	case modelDepth(v) > 16:
		return api.ErrDeep
	case len(modelFlat(v)) > 1500:
		return api.ErrMany
	case !modelWellMade(v):
		return api.ErrBad
	}
	return api.OK
}

// few are tokens of all that counts here: openers, closers, a space, and others.
func few() []api.Token {
	return list(ident("a"), space, openParen, closeParen, openSquare, closeSquare, openCurly, closeCurly, function("f"))
}

// eachTokens calls f with all lists of at most four of the few tokens, and with some longer ones.
func eachTokens(f func(l []api.Token)) {
	var grow func(l []api.Token, left int)
	grow = func(l []api.Token, left int) {
		f(l)
		if left == 0 {
			return
		}
		for _, x := range few() {
			grow(append(slices.Clip(l), x), left-1)
		}
	}
	grow(nil, 4)
	random := rand.New(rand.NewSource(4))
	for range 4000 {
		l := make([]api.Token, random.Intn(60))
		for i := range l {
			l[i] = few()[random.Intn(len(few()))]
		}
		f(l)
	}
}

func TestParseIsLikeTheModel(t *testing.T) {
	deep := 0
	eachTokens(func(l []api.Token) {
		got, e := nest.Parse(l)
		want, _ := modelParse(l)
		if modelDepth(want) > 16 {
			deep++
			if e != api.ErrDeep || got != nil {
				t.Fatalf("Parse(%+v) = %+v, %v", l, got, e)
			}
			return
		}
		if e != api.OK || !same(got, want) {
			t.Fatalf("Parse(%+v) = %+v, %v; want %+v", l, got, e, want)
		}
	})
	if deep == 0 {
		t.Error("no tokens were too deep")
	}
}

// randomValues are values that may not be valid.
func randomValues(random *rand.Rand, depth int) []api.Value {
	var v []api.Value
	for range random.Intn(4) {
		x := leaf(few()[random.Intn(len(few()))])
		if _, opens := modelCloser(x.Token); depth > 0 && (opens || random.Intn(40) == 0) {
			x.List = randomValues(random, depth-1)
		}
		v = append(v, x)
	}
	return v
}

func TestCheckIsLikeTheModel(t *testing.T) {
	random := rand.New(rand.NewSource(44))
	said := map[api.Errno]int{}
	for range 20000 {
		v := randomValues(random, 6)
		switch random.Intn(40) {
		case 0:
			v = chain(few()[2+2*random.Intn(3)], random.Intn(18), v...)
		case 1:
			v = append(many(name("a"), 1400+random.Intn(150)), v...)
		case 2:
			v = append(chain(function("f"), random.Intn(18)), append(many(parens(), 700+random.Intn(100)), v...)...)
		}
		want := modelCheck(v)
		said[want]++
		if e := nest.Check(v); e != want {
			t.Fatalf("Check(%.300v) = %v, want %v", v, e, want)
		}
		checkedFirst(t, v, want)
	}
	for _, e := range []api.Errno{api.OK, api.ErrDeep, api.ErrMany, api.ErrBad} {
		if said[e] < 20 {
			t.Errorf("%v was said %d times", e, said[e])
		}
	}
}

// eachValues calls f with many valid values.
func eachValues(f func(v []api.Value)) {
	eachTokens(func(l []api.Token) {
		if v, _ := modelParse(l); modelCheck(v) == api.OK {
			f(v)
		}
	})
	random := rand.New(rand.NewSource(444))
	for range 5000 {
		if v := randomValues(random, 8); modelCheck(v) == api.OK {
			f(v)
		}
	}
}

// P4.2 and P4.4: written out they are the tokens.

func TestFlatIsLikeTheModel(t *testing.T) {
	eachValues(func(v []api.Value) {
		if got, e := nest.Flat(v); e != api.OK || !slices.Equal(got, modelFlat(v)) {
			t.Fatalf("Flat(%+v) = %+v, %v", v, got, e)
		}
	})
}

func TestValuesOfTheTokensOfValues(t *testing.T) {
	eachValues(func(v []api.Value) {
		l, e := nest.Flat(v)
		if got, f := nest.Parse(l); e != api.OK || f != api.OK || !same(got, v) {
			t.Fatalf("Parse of Flat(%+v) = %+v, %v, %v", v, got, e, f)
		}
		s, e := nest.Text(v)
		if got, f := token.Tokens(s); e != api.OK || f != api.OK || !slices.Equal(got, l) {
			t.Fatalf("Text(%+v) = %q, %v, with the tokens %+v, %v", v, s, e, got, f)
		}
	})
}

func TestTokensOfTheValuesOfTokens(t *testing.T) {
	eachTokens(func(l []api.Token) {
		v, e := nest.Parse(l)
		if e == api.ErrDeep {
			return
		}
		_, missing := modelParse(l)
		if got, f := nest.Flat(v); e != api.OK || f != api.OK || !slices.Equal(got, slices.Concat(l, missing)) {
			t.Fatalf("Flat of Parse(%+v) = %+v, %v, %v", l, got, e, f)
		}
	})
	x := api.Token{Kind: api.TokCloseParen, Text: "x", Num: 1, Unit: "y", Flag: true}
	v, e := nest.Parse(list(openParen, x, x))
	if l, f := nest.Flat(v); e != api.OK || f != api.OK || !slices.Equal(l, list(openParen, closeParen, x)) {
		t.Errorf("with closers of any shape: %+v, %v, %v", l, e, f)
	}
}

// P4.2 and P4.4: the depth holds.

// deepestOpener returns how many blocks the deepest opener is in, with its own.
func deepestOpener(l []api.Token) int {
	deepest := 0
	var closers []uint8
	for _, t := range l {
		if closer, opens := modelCloser(t); opens {
			closers = append(closers, closer)
			deepest = max(deepest, len(closers))
		} else if n := len(closers); n > 0 && t.Kind == closers[n-1] {
			closers = closers[:n-1]
		}
	}
	return deepest
}

func TestDepthIsThatOfTheDeepestOpener(t *testing.T) {
	eachTokens(func(l []api.Token) {
		want := deepestOpener(l)
		v, e := nest.Parse(l)
		if (e == api.ErrDeep) != (want > 16) {
			t.Fatalf("Parse(%+v): %v, with a depth of %d", l, e, want)
		}
		if got, f := nest.Depth(v); e == api.OK && (f != api.OK || got != want) {
			t.Fatalf("Depth of Parse(%+v) = %d, %v; want %d", l, got, f, want)
		}
	})
}

func TestDepthInABlock(t *testing.T) {
	eachValues(func(v []api.Value) {
		depth, e := nest.Depth(v)
		greatest := 0
		for _, x := range v {
			if _, opens := modelCloser(x.Token); opens {
				inside, f := nest.Depth(x.List)
				greatest = max(greatest, inside+1)
				if f != api.OK {
					t.Fatalf("Depth(%+v): %v", x.List, f)
				}
			}
		}
		if e != api.OK || depth != greatest {
			t.Fatalf("Depth(%+v) = %d, %v; want %d", v, depth, e, greatest)
		}
	})
}

// P4.3 and P4.4: parts, with values of the kind between them, are the values.

func TestPartsAreTheValues(t *testing.T) {
	eachValues(func(v []api.Value) {
		for _, x := range few() {
			parts, e := nest.Split(v, x.Kind)
			if e != api.OK || len(parts) == 0 {
				t.Fatalf("Split(%+v, %d): %v", v, x.Kind, e)
			}
			var all []api.Value
			for i, p := range parts {
				if slices.ContainsFunc(p, func(y api.Value) bool { return y.Token.Kind == x.Kind }) {
					t.Fatalf("Split(%+v, %d) = %+v", v, x.Kind, parts)
				}
				if i > 0 && len(all) < len(v) && v[len(all)].Token.Kind == x.Kind {
					all = append(all, v[len(all)])
				}
				all = append(all, p...)
			}
			if between := len(v) - len(slices.Concat(parts...)); !same(all, v) || len(parts) != between+1 {
				t.Fatalf("Split(%+v, %d) = %+v", v, x.Kind, parts)
			}
		}
	})
}

func TestTrimmedValues(t *testing.T) {
	isNoSpace := func(x api.Value) bool { return x.Token.Kind != api.TokSpace }
	eachValues(func(v []api.Value) {
		first, end := 0, 0
		for i, x := range v {
			if isNoSpace(x) {
				end = i + 1
			}
		}
		if end > 0 {
			first = slices.IndexFunc(v, isNoSpace)
		}
		want := v[first:end]
		got, e := nest.Trim(v)
		if e != api.OK || !same(got, want) {
			t.Fatalf("Trim(%+v) = %+v, %v", v, got, e)
		}
		if again, e := nest.Trim(got); e != api.OK || !same(again, got) {
			t.Fatalf("Trim(%+v) = %+v, %v", got, again, e)
		}
	})
}

// P1: arguments are only read, results share no memory, and nothing is kept.

// roomy returns values whose lists have other values between their length and their capacity.
func roomy(v []api.Value) []api.Value {
	w := append(make([]api.Value, 0, len(v)+2), v...)
	for i := range w {
		w[i].List = roomy(w[i].List)
	}
	copy(w[len(w):cap(w)], values(parens(leaf(comma)), leaf(closeParen)))
	return w
}

// whole returns a copy of values, with all that is between the length and the capacity of lists.
func whole(v []api.Value) []api.Value {
	w := slices.Clone(v[:cap(v)])
	for i := range w {
		w[i].List = whole(w[i].List)
	}
	return w
}

// listsOf returns all lists of values, up to their capacities.
func listsOf(v []api.Value) [][]api.Value {
	all := [][]api.Value{v[:cap(v)]}
	for _, x := range v {
		all = append(all, listsOf(x.List)...)
	}
	return all
}

// scribble writes over all lists of results, and reports whether each has memory of its own.
func scribble(results ...[]api.Value) bool {
	var all [][]api.Value
	for _, v := range results {
		all = append(all, listsOf(v)...)
	}
	for i, v := range all {
		for j := range v {
			v[j] = leaf(api.Token{Num: int64(i)})
		}
	}
	for i, v := range all {
		if slices.ContainsFunc(v, func(x api.Value) bool { return x.Token.Num != int64(i) }) {
			return false
		}
	}
	return true
}

func TestResultsShareNoMemory(t *testing.T) {
	eachValues(func(v []api.Value) {
		v = roomy(v)
		before := whole(v)
		flat, _ := nest.Flat(v)
		tokens := slices.Clone(flat)
		nest.Text(v)
		nest.Depth(v)
		for _, kind := range []uint8{api.TokSpace, api.TokIdent, api.TokOpenParen} {
			trimmed, _ := nest.Trim(v)
			parts, _ := nest.Split(v, kind)
			if !scribble(append(parts, trimmed)...) {
				t.Fatalf("results of %+v share memory", v)
			}
			if again, e := nest.Split(v, kind); e != api.OK || len(again) != len(parts) {
				t.Fatalf("Split(%+v, %d) again: %+v, %v", v, kind, again, e)
			}
		}
		for i := range flat[:cap(flat)] {
			flat[:cap(flat)][i] = comma
		}
		if !same(whole(v), before) {
			t.Fatalf("%+v became %+v", before, whole(v))
		}
		if again, e := nest.Flat(v); e != api.OK || !slices.Equal(again, tokens) {
			t.Fatalf("Flat(%+v) again: %+v, %v", v, again, e)
		}
	})
}

func TestParseOnlyReads(t *testing.T) {
	eachTokens(func(l []api.Token) {
		room := append(slices.Clone(l), closeParen, closeSquare, ident("x"))
		before := slices.Clone(room)
		first, e := nest.Parse(room[:len(l)])
		if e == api.ErrDeep {
			return
		}
		if !scribble(first) {
			t.Fatalf("lists of Parse(%+v) share memory", l)
		}
		again, f := nest.Parse(room[:len(l)])
		want, _ := modelParse(l)
		if f != api.OK || !same(again, want) {
			t.Fatalf("Parse(%+v) again: %+v, %v", l, again, f)
		}
		if !slices.Equal(room, before) {
			t.Fatalf("Parse changed %+v to %+v", before, room)
		}
	})
}

// Valid values whose lists share memory have results that do not.
func TestSharedListsAreCopied(t *testing.T) {
	shared := values(name("a"), parens(name("b")), leaf(comma))
	v := values(parens(shared...), squares(shared...), leaf(comma), call("f", shared[:2]...), curlies(shared[1:]...))
	before := whole(v)
	trimmed, e := nest.Trim(v)
	parts, f := nest.Split(v, api.TokComma)
	if e != api.OK || f != api.OK || !same(trimmed, v) || len(parts) != 2 || !same(parts[0], v[:2]) || !same(parts[1], v[3:]) {
		t.Errorf("%+v, %v, %+v, %v", trimmed, e, parts, f)
	}
	if !scribble(append(parts, trimmed)...) || !same(whole(v), before) {
		t.Error("results share memory")
	}
}
