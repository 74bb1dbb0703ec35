package cond_test

import (
	"fmt"
	"math"
	"slices"
	"strings"
	"testing"

	"vitrine/api"
	"vitrine/cond"
	"vitrine/nest"
	"vitrine/token"
)

const most = 1000000000000

func mark(kind uint8) api.Token   { return api.Token{Kind: kind} }
func ident(s string) api.Token    { return api.Token{Kind: api.TokIdent, Text: s} }
func function(s string) api.Token { return api.Token{Kind: api.TokFunction, Text: s} }
func leaf(t api.Token) api.Value  { return api.Value{Token: t} }
func word(s string) api.Value     { return leaf(ident(s)) }

func number(n int64) api.Value { return leaf(api.Token{Kind: api.TokNumber, Num: n}) }

func dimension(n int64, unit string) api.Value {
	return leaf(api.Token{Kind: api.TokDimension, Num: n, Unit: unit})
}

func block(t api.Token, v ...api.Value) api.Value { return api.Value{Token: t, List: v} }

func values(v ...api.Value) []api.Value { return v }

var (
	space  = leaf(mark(api.TokSpace))
	comma  = leaf(mark(api.TokComma))
	colon  = leaf(mark(api.TokColon))
	parens = mark(api.TokOpenParen)
)

// chain is a value in as many blocks, each in the next one.
func chain(count int, x ...api.Value) []api.Value {
	for range count {
		x = values(block(parens, x...))
	}
	return x
}

// looped are values that are inside themselves.
func looped() []api.Value {
	v := values(block(parens))
	v[0].List = v
	return v
}

func group(kind uint8, l ...api.Cond) api.Cond { return api.Cond{Kind: kind, List: l} }

func all(l ...api.Cond) api.Cond    { return group(api.CondAll, l...) }
func either(l ...api.Cond) api.Cond { return group(api.CondAny, l...) }
func not(c api.Cond) api.Cond       { return group(api.CondNot, c) }
func media(s string) api.Cond       { return api.Cond{Kind: api.CondMedia, Name: s} }
func from(n int64) api.Cond         { return api.Cond{Kind: api.CondMin, Num: n} }
func upTo(n int64) api.Cond         { return api.Cond{Kind: api.CondMax, Num: n} }
func never() api.Cond               { return api.Cond{Kind: api.CondNever} }
func notAll() api.Cond              { return not(all(media("all"))) }

func with(name string, v ...api.Value) api.Decl { return api.Decl{Name: name, Value: v} }

func declared(name string, v ...api.Value) api.Cond {
	return api.Cond{Kind: api.CondDecl, Decl: with(name, v...)}
}

// is is a declaration with a word as its value.
func is(name, value string) api.Cond { return declared(name, word(value)) }

// nots is a condition in as many CondNot.
func nots(count int, c api.Cond) api.Cond {
	for range count {
		c = not(c)
	}
	return c
}

// same compares conditions, of which an empty list is like none.
func same(a, b api.Cond) bool {
	return a.Kind == b.Kind && a.Name == b.Name && a.Num == b.Num && sameDecl(a.Decl, b.Decl) && slices.EqualFunc(a.List, b.List, same)
}

func sameDecl(a, b api.Decl) bool {
	return a.Name == b.Name && a.Important == b.Important && sameValues(a.Value, b.Value)
}

func sameValues(v, w []api.Value) bool {
	return slices.EqualFunc(v, w, func(x, y api.Value) bool { return x.Token == y.Token && sameValues(x.List, y.List) })
}

// brief tells some of a condition, of which there may be too much.
func brief(c api.Cond, depth int) string {
	s := fmt.Sprintf("kind %d, %.50q, %d, %.50q, %d in a list", c.Kind, c.Name, c.Num, c.Decl.Name, len(c.List))
	for i := 0; i < len(c.List) && i < 3 && depth > 0; i++ {
		s += " (" + brief(c.List[i], depth-1) + ")"
	}
	return s
}

func valuesOf(t *testing.T, s string) []api.Value {
	t.Helper()
	l, e := token.Tokens(s)
	if e != api.OK {
		t.Fatalf("Tokens(%q): %v", s, e)
	}
	v, e := nest.Parse(l)
	if e != api.OK {
		t.Fatalf("Parse of %q: %v", s, e)
	}
	return v
}

func checkMedia(t *testing.T, s string, want api.Cond) {
	t.Helper()
	c, e := cond.Media(valuesOf(t, s))
	if e != api.OK || !same(c, want) {
		t.Errorf("Media of %q = %+v, %v; want %+v", s, c, e, want)
	}
	if e := cond.CheckMedia(c); e != api.OK {
		t.Errorf("CheckMedia of %q: %v", s, e)
	}
}

func checkQuery(t *testing.T, s string, want api.Cond) {
	t.Helper()
	checkMedia(t, s, either(want))
}

func checkSupports(t *testing.T, s string, want api.Cond) {
	t.Helper()
	c, e := cond.Supports(valuesOf(t, s))
	if e != api.OK || !same(c, want) {
		t.Errorf("Supports of %q = %+v, %v; want %+v", s, c, e, want)
	}
	if e := cond.CheckSupports(c); e != api.OK {
		t.Errorf("CheckSupports of %q: %v", s, e)
	}
}

func checkNoSupports(t *testing.T, v []api.Value, want api.Errno) {
	t.Helper()
	if c, e := cond.Supports(v); e != want || !same(c, api.Cond{}) {
		t.Errorf("Supports of %d values = %+v, %v; want %v", len(v), c, e, want)
	}
}

func checkText(t *testing.T, c api.Cond, want string) {
	t.Helper()
	if s, e := cond.Text(c); e != api.OK || s != want {
		t.Errorf("Text(%+v) = %q, %v; want %q", c, s, e, want)
	}
}

func checkHolds(t *testing.T, c api.Cond, width int64, want bool, yes ...bool) {
	t.Helper()
	if got, e := cond.Holds(c, api.Env{Width: width}, yes); e != api.OK || got != want {
		t.Errorf("Holds(%+v, %d, %v) = %v, %v; want %v", c, width, yes, got, e, want)
	}
}

func TestExamples(t *testing.T) {
	c, e := cond.Media(valuesOf(t, "Screen AND (min-width:10.5px), (foo)"))
	if want := either(all(media("screen"), from(10500)), notAll()); e != api.OK || !same(c, want) {
		t.Errorf("Media = %+v, %v; want %+v", c, e, want)
	}
	checkText(t, c, "screen and (min-width: 10.5px), not all")
	checkHolds(t, c, 11, true)
	checkHolds(t, c, 10, false)
	c, e = cond.Supports(valuesOf(t, "not ((a:b) or (c))"))
	if want := not(either(is("a", "b"), never())); e != api.OK || !same(c, want) {
		t.Errorf("Supports = %+v, %v; want %+v", c, e, want)
	}
	checkText(t, c, "not ((a: b) or (unknown))")
	checkHolds(t, c, 0, true, false)
	checkHolds(t, c, 0, false, true)
}

// P10.2: Media.

func TestMediaQueries(t *testing.T) {
	screen, print := media("screen"), media("print")
	for s, want := range map[string]api.Cond{
		"screen":       all(screen),
		"  screen\n\t": all(screen),
		"PRINT":        all(print),
		"PrÄnt":        all(media("prÄnt")),
		`pr\49nt`:      all(print),
		`a\,b`:         all(media("a,b")),
		`\31 \20 `:     all(media("1 ")),
		"all":          all(media("all")),
		"x--9_":        all(media("x--9_")),
		"min-width":    all(media("min-width")),
		"nots":         all(media("nots")),
		"only screen":  all(screen),
		"ONLY Screen":  all(screen),
		"not screen":   not(all(screen)),
		"Not SCREEN":   not(all(screen)),
		"not all":      notAll(),
		`n\6ft screen`: not(all(screen)),
		"not/**/screen/**/and/**/(min-width:1px)":             not(all(screen, from(1000))),
		"only/**/screen/**/and/**/(max-width:1px)":            all(screen, upTo(1000)),
		"not /**/ screen /**/ and /**/ (min-width:1px) /**/ ": not(all(screen, from(1000))),
		"(min-width:1px)":                                       all(from(1000)),
		" (min-width:1px) ":                                     all(from(1000)),
		"(max-width:1px)":                                       all(upTo(1000)),
		"(min-width:1px) and (max-width:2px)":                   all(from(1000), upTo(2000)),
		"(min-width:1px)and (max-width:2px)":                    all(from(1000), upTo(2000)),
		"(min-width:1px) AND (min-width:1px) And (min-width:0)": all(from(1000), from(1000), from(0)),
		"screen and (min-width:1px)":                            all(screen, from(1000)),
		"screen and (max-width:1px) and (min-width:3px)":        all(screen, upTo(1000), from(3000)),
		"only screen and (max-width:1px) and (min-width:3px)":   all(screen, upTo(1000), from(3000)),
		"not screen and (max-width:1px) and (min-width:3px)":    not(all(screen, upTo(1000), from(3000))),
		strings.Repeat("A", 64):                                 all(media(strings.Repeat("a", 64))),
		strings.Repeat("é", 32):                                 all(media(strings.Repeat("é", 32))),
		"screen" + strings.Repeat(" and (min-width:0)", 160):    all(append([]api.Cond{screen}, slices.Repeat([]api.Cond{from(0)}, 160)...)...),
	} {
		checkQuery(t, s, want)
	}
}

func TestMediaQueriesThatAreNone(t *testing.T) {
	for _, s := range []string{
		"and", "AND", "or", "Or", "not", "NOT", "only", "oNly", `\6Fnly`,
		"not and", "not or", "not not", "not only", "only and", "only or", "only not", "only only", "only not screen", "not only screen",
		"and screen", "or screen", "screen and", "screen or", "screen and and (min-width:0)", "screen print", "screen and print", "screen not",
		"screen (min-width:0)", "screen or (min-width:0)", "screen and not (min-width:0)", "screen and only (min-width:0)", "screen and (min-width:0) (min-width:0)",
		"screen and (min-width:0) and", "screen and (min-width:0) or (min-width:0)", "screen and (min-width:0) print", "screen and (min-width:0) and print",
		"screen and(min-width:0)", "screen and (foo)", "screen and (min-width:0) and (foo)", "screen and ((min-width:0))",
		"not (min-width:0)", "only (min-width:0)", "not (min-width:0) and (min-width:0)", "not(min-width:0)", "only(screen)",
		"(min-width:0) screen", "(min-width:0) and screen", "(min-width:0) or (min-width:0)", "(min-width:0) (min-width:0)", "(min-width:0) and", "and (min-width:0)",
		"((min-width:0))", "(not (min-width:0))", "(screen)", "(foo)", "()", "[min-width:0]", "{min-width:0}", "f(min-width:0)", "min-width:0", "min-width(0)",
		"5", "5px", "screen 5", ".screen", "#screen", "@screen", "'screen'", "screen()", "screen:", "screen;", ":", ";", ")", "]", "}", "screen)", "!", "url(screen)", "<!--", "screen -->", "5%", "'\n",
		strings.Repeat("a", 65), "é" + strings.Repeat("a", 63), "not " + strings.Repeat("a", 65),
	} {
		checkQuery(t, s, notAll())
	}
}

func TestMediaFeatures(t *testing.T) {
	for s, want := range map[string]api.Cond{
		"min-width:1px":                  from(1000),
		"max-width:1px":                  upTo(1000),
		" min-width : 1px ":              from(1000),
		" /**/ max-width/**/:/**/1px\n":  upTo(1000),
		" /**/ max-width /**/ : /**/1px": upTo(1000),
		"MIN-Width:1PX":                  from(1000),
		"Max-width:1Px":                  upTo(1000),
		`m\69n-width:1\70x`:              from(1000),
		"min-width:10.5px":               from(10500),
		"min-width:.0019px":              from(1),
		"min-width:+2px":                 from(2000),
		"min-width:1e3px":                from(1000000),
		"min-width:0px":                  from(0),
		"min-width:-0px":                 from(0),
		"min-width:-.0001px":             from(0),
		"min-width:0":                    from(0),
		"max-width:0":                    upTo(0),
		"min-width:0.0":                  from(0),
		"max-width:-0":                   upTo(0),
		"min-width:.0009":                from(0),
		"min-width:1000000000px":         from(most),
		"max-width:5e99px":               upTo(most),
	} {
		checkQuery(t, "("+s+")", all(want))
		checkQuery(t, "screen and ("+s+")", all(media("screen"), want))
	}
	for _, s := range []string{
		"", "min-width", "min-width:", ":1px", "min-width 1px", "1px", "width:1px", "min-height:1px", "min--width:1px", "minwidth:1px", "min-width:1px 1px", "min-width:1px;", "min-width::1px", "(min-width:1px)",
		"min-width:1", "min-width:0.001", "min-width:-1", "min-width:1em", "min-width:1pxx", "min-width:1p", "min-width:0em", "min-width:0%", "min-width:1%", "min-width:px", "min-width:'1px'", "min-width:#1px", "min-width:(1px)", "min-width:calc(1px)", "min-width:[1px]",
		"min-width:-1px", "min-width:-.001px", "max-width:-1px", "max-width:-5e99px", "min-width:1 px", "x min-width:1px", "min-width:1px x", "min-width>=1px", "min-width>:1px", "'min-width':1px", "#min-width:1px", "@min-width:1px", "min-width(:1px", "not:1px", "min-width:1px !important",
	} {
		checkQuery(t, "("+s+")", notAll())
		checkQuery(t, "screen and ("+s+")", notAll())
		checkQuery(t, "(min-width:0) and ("+s+") and (min-width:0)", notAll())
	}
}

func TestMediaLists(t *testing.T) {
	for _, s := range []string{"", " ", "\n\t", "/**/", " /**/ "} {
		checkMedia(t, s, all())
	}
	a, b := all(media("a")), all(media("b"))
	for s, want := range map[string]api.Cond{
		"a":                        either(a),
		"a,b":                      either(a, b),
		" b , a ,b ":               either(b, a, b),
		",":                        either(notAll(), notAll()),
		"a,":                       either(a, notAll()),
		" , a":                     either(notAll(), a),
		"a,,b":                     either(a, notAll(), b),
		"a,5,b":                    either(a, notAll(), b),
		"a b,not a":                either(notAll(), not(a)),
		"(a,b)":                    either(notAll()),
		"f(a,b),[a,b],{a,b},b":     either(notAll(), notAll(), notAll(), b),
		"(min-width:0),a":          either(all(from(0)), a),
		"a;b":                      either(notAll()),
		"a and (max-width:0),5, b": either(all(media("a"), upTo(0)), notAll(), b),
	} {
		checkMedia(t, s, want)
	}
	checkMedia(t, strings.Repeat("a,", 63)+"a", either(slices.Repeat([]api.Cond{a}, 64)...))
	checkMedia(t, strings.Repeat(",", 63), either(slices.Repeat([]api.Cond{notAll()}, 64)...))
}

// checkNoMedia checks an error of Media.
func checkNoMedia(t *testing.T, v []api.Value, want api.Errno) {
	t.Helper()
	if c, e := cond.Media(v); e != want || !same(c, api.Cond{}) {
		t.Errorf("Media of %d values: %+v, %v; want %v", len(v), c, e, want)
	}
}

func TestMediaErrors(t *testing.T) {
	for _, s := range []string{strings.Repeat("a,", 64) + "a", strings.Repeat(",", 64), strings.Repeat(" , ", 64), strings.Repeat(",", 1500)} {
		checkNoMedia(t, valuesOf(t, s), api.ErrMany)
	}
	many := slices.Repeat(values(comma), 64)
	stray := block(parens, leaf(mark(api.TokCloseParen)))
	listed := api.Value{Token: ident("a"), List: values(comma)}
	checkNoMedia(t, append(slices.Clip(many), chain(17)...), api.ErrDeep)
	checkNoMedia(t, append(slices.Clip(many), stray), api.ErrBad)
	checkNoMedia(t, append(slices.Clip(many), listed), api.ErrBad)
	checkNoMedia(t, values(listed), api.ErrBad)
	checkNoMedia(t, slices.Repeat(values(comma), 1501), api.ErrMany)
	checkNoMedia(t, slices.Repeat(values(space), 1501), api.ErrMany)
	checkNoMedia(t, append(slices.Repeat(values(space), 1501), chain(17)...), api.ErrDeep)
	checkNoMedia(t, looped(), api.ErrDeep)
	if c, e := cond.Media(slices.Repeat(values(space), 1500)); e != api.OK || !same(c, all()) {
		t.Errorf("Media of 1500 spaces = %+v, %v", c, e)
	}
	if c, e := cond.Media(chain(16)); e != api.OK || !same(c, either(notAll())) {
		t.Errorf("Media of 16 blocks = %+v, %v", c, e)
	}
}

func feature(v ...api.Value) api.Value { return block(parens, v...) }

func TestMediaOfOddTokens(t *testing.T) {
	minimum := word("min-width")
	for _, test := range []struct {
		v    []api.Value
		want api.Cond
	}{
		{values(word("")), notAll()},
		{values(word("a\x00")), notAll()},
		{values(word("\x00")), notAll()},
		{values(word("not"), word("a\x00")), notAll()},
		{values(word("A\f")), all(media("a\f"))},
		{values(word(strings.Repeat("\xff", 64))), all(media(strings.Repeat("\xff", 64)))},
		{values(leaf(mark(0))), notAll()},
		{values(leaf(mark(api.TokBadString))), notAll()},
		{values(leaf(mark(api.TokBadURL)), comma, word("a")), api.Cond{}},
		{values(feature(minimum, colon, dimension(most, "px"))), all(from(most))},
		{values(feature(minimum, colon, dimension(most+1, "px"))), notAll()},
		{values(feature(minimum, colon, dimension(math.MaxInt64, "px"))), notAll()},
		{values(feature(minimum, colon, dimension(-1, "px"))), notAll()},
		{values(feature(minimum, colon, dimension(math.MinInt64, "px"))), notAll()},
		{values(feature(minimum, colon, dimension(0, ""))), notAll()},
		{values(feature(minimum, colon, number(0))), all(from(0))},
		{values(feature(minimum, colon, number(1))), notAll()},
		{values(feature(minimum, colon, leaf(api.Token{Kind: api.TokNumber, Flag: true}))), all(from(0))},
		{values(feature(minimum, colon, leaf(mark(api.TokPercent)))), notAll()},
		{values(feature(word("min-width\x00"), colon, number(0))), notAll()},
		{values(block(mark(api.TokOpenSquare), minimum, colon, number(0))), notAll()},
		{values(word("a"), word("and"), feature(space, minimum, space, space, colon, space, number(0), space)), all(media("a"), from(0))},
	} {
		want := either(test.want)
		if test.want.Kind == 0 {
			want = either(notAll(), all(media("a")))
		}
		c, e := cond.Media(test.v)
		if e != api.OK || !same(c, want) || cond.CheckMedia(c) != api.OK {
			t.Errorf("Media(%+v) = %+v, %v; want %+v", test.v, c, e, want)
		}
	}
}

// P10.2: Supports.

func TestSupportsTerms(t *testing.T) {
	x, y := is("x", "y"), func(c api.Cond) api.Cond { c.Decl.Important = true; return c }
	for s, want := range map[string]api.Cond{
		"(x:y)":                x,
		" ( X : y ) ":          x,
		"/**/(/**/x/**/:y)":    x,
		"(x:y!IMPORTANT)":      y(x),
		"(x:y ! important )":   y(x),
		"(x:Y)":                is("x", "Y"),
		"(--X:)":               declared("--X"),
		"(--x: y z)":           declared("--x", word("y"), space, word("z")),
		"(x:f(1,(2)))":         declared("x", block(function("f"), leaf(api.Token{Kind: api.TokNumber, Num: 1000, Flag: true}), comma, block(parens, leaf(api.Token{Kind: api.TokNumber, Num: 2000, Flag: true})))),
		"(x:{y;z!})":           declared("x", block(mark(api.TokOpenCurly), word("y"), leaf(mark(api.TokSemicolon)), word("z"), leaf(api.Token{Kind: api.TokDelim, Text: "!"}))),
		"(not:x)":              is("not", "x"),
		"(and : or)":           is("and", "or"),
		"((x:y))":              x,
		"( ( (x:y) ) )":        x,
		"((x:y) )":             x,
		"(((f())))":            never(),
		"()":                   never(),
		"( )":                  never(),
		"(())":                 never(),
		"(unknown)":            never(),
		"(x:)":                 never(),
		"(:y)":                 never(),
		"(5:y)":                never(),
		"(x:y;)":               never(),
		"(x:y;z:w)":            never(),
		"(x:y!)":               never(),
		"(x:y])":               never(),
		"(x:'\n)":              never(),
		"(--:x)":               never(),
		"(x y)":                never(),
		"(x)":                  never(),
		"((x:y)(x:y))":         never(),
		"((x:y) and)":          never(),
		"(and (x:y))":          never(),
		"(not)":                never(),
		"(not x:y)":            never(),
		"(not(x:y))":           never(),
		"((x:y) and x:y)":      never(),
		"((x:y)and (x:y))":     never(),
		"((x:y) and (x:y),)":   never(),
		"([x:y])":              never(),
		"({x:y})":              never(),
		"f()":                  never(),
		"f(x:y)":               never(),
		"not(x:y)":             never(),
		"and()":                never(),
		"selector(a > b)":      never(),
		"url('x')":             never(),
		"((x:y) or f())":       either(x, never()),
		"(not (x:y))":          not(x),
		"((x:y) and (--z:))":   all(x, declared("--z")),
		"(((x:y) and (--z:)))": all(x, declared("--z")),
	} {
		checkSupports(t, s, want)
		checkSupports(t, "not "+s, not(want))
		checkSupports(t, "(q:r) and "+s, all(is("q", "r"), want))
		checkSupports(t, s+" or (q:r)", either(want, is("q", "r")))
	}
}

func TestSupportsGroups(t *testing.T) {
	a, b, c := is("a", "x"), is("b", "y"), never()
	for s, want := range map[string]api.Cond{
		"(a:x) and (b:y)":                                 all(a, b),
		"(a:x) or (b:y)":                                  either(a, b),
		"(a:x) AND (b:y) aNd f()":                         all(a, b, c),
		"(a:x) Or (b:y) oR f()":                           either(a, b, c),
		`(a:x) \61nd (b:y)`:                               all(a, b),
		"  (a:x)\nand\t(b:y)  ":                           all(a, b),
		"(a:x) /**/ and /**/ (b:y)":                       all(a, b),
		"(a:x) /**/and/**/ (b:y)":                         all(a, b),
		"(a:x)/**/ and /**/(b:y)":                         all(a, b),
		"NOT (a:x)":                                       not(a),
		"not /**/ (a:x)":                                  not(a),
		"not/**/ (a:x)":                                   not(a),
		" not  (a:x) ":                                    not(a),
		`n\6ft (a:x)`:                                     not(a),
		"not (not (a:x))":                                 not(not(a)),
		"not (not (not f()))":                             not(not(not(c))),
		"(not (a:x)) and (not (b:y))":                     all(not(a), not(b)),
		"((a:x) and (b:y)) and (a:x)":                     all(all(a, b), a),
		"((a:x) and (b:y)) or (a:x)":                      either(all(a, b), a),
		"(a:x) or ((a:x) and (b:y))":                      either(a, all(a, b)),
		"((a:x) or (b:y)) or (((a:x)) or ((b:y)))":        either(either(a, b), either(a, b)),
		"not ((a:x) and (not (b:y)))":                     not(all(a, not(b))),
		"(a:x)" + strings.Repeat(" and (b:y)", 99):        all(append([]api.Cond{a}, slices.Repeat([]api.Cond{b}, 99)...)...),
		"f()" + strings.Repeat(" or f()", 299):            either(slices.Repeat([]api.Cond{c}, 300)...),
		strings.Repeat("(", 15) + "f()":                   c,
		strings.Repeat("(", 16) + "":                      c,
		strings.Repeat("(", 15) + "a:x":                   a,
		strings.Repeat("(", 15) + "a:f()":                 declared("a", block(function("f"))),
		strings.Repeat("not (", 15) + "not f()":           nots(16, c),
		strings.Repeat("not (", 15) + "not (a:x)":         nots(16, a),
		strings.Repeat("not (", 14) + "not (a:f(x)":       nots(15, declared("a", block(function("f"), word("x")))),
		strings.Repeat("not (", 12) + "f() or (f() and x": nots(12, either(c, c)),
	} {
		checkSupports(t, s, want)
	}
}

func TestSupportsThatAreNone(t *testing.T) {
	for _, s := range []string{
		"", " ", "/**/", "x", "x:y", "and", "or", "not", "not ", "only (x:y)", "5", ",", ")", "]", "}", "'x'", "url(x)", "[x:y]", "{x:y}", "@x", "#x", "!",
		"not x", "not not (x:y)", "not and (x:y)", "not (x:y) (x:y)", "not (x:y) and (x:y)", "not (x:y) or (x:y)", "not (x:y) not (x:y)", "not/**/(x:y)", "not/**/f()", "not [x:y]", "(x:y) not", "(x:y) not (x:y)", "(x:y) and not (x:y)", "(x:y) or not (x:y)",
		"(x:y)(x:y)", "(x:y) (x:y)", "(x:y) and", "(x:y) or ", "and (x:y)", "or (x:y)", "(x:y) and and (x:y)", "(x:y) and or (x:y)", "(x:y) only (x:y)", "(x:y) xor (x:y)", "(x:y) , (x:y)", "(x:y),", "(x:y);", "(x:y))",
		"(x:y)and (x:y)", "(x:y)or (x:y)", "(x:y) and(x:y)", "(x:y) or(x:y)", "(x:y) and/**/(x:y)", "(x:y)/**/and (x:y)", "(x:y)/**/and/**/(x:y)", "f()and f()",
		"(x:y) and (x:y)and (x:y)", "(x:y) and (x:y) and/**/(x:y)", "(x:y) or (x:y)or (x:y)", "(x:y) or (x:y) or/**/f()",
		"(x:y) and (x:y) or (x:y)", "(x:y) or (x:y) and (x:y)", "f() and f() and f() or f()", "(x:y) and (x:y) (x:y)", "(x:y) and (x:y) and", "(x:y) and x", "(x:y) and x:y", "(x:y) and [x]", "(x:y) or 5", "x and (x:y)", "[x] or (x:y)", "(x:y) 'and' (x:y)", "(x:y) #and (x:y)", "(x:y) @and (x:y)",
	} {
		checkNoSupports(t, valuesOf(t, s), api.ErrForm)
	}
}

func TestSupportsErrors(t *testing.T) {
	listed := api.Value{Token: ident("a"), List: values(comma)}
	checkNoSupports(t, chain(17), api.ErrDeep)
	checkNoSupports(t, looped(), api.ErrDeep)
	checkNoSupports(t, slices.Repeat(values(space), 1501), api.ErrMany)
	checkNoSupports(t, append(slices.Repeat(values(space), 1501), chain(17)...), api.ErrDeep)
	checkNoSupports(t, slices.Repeat(chain(1), 751), api.ErrMany)
	checkNoSupports(t, values(listed), api.ErrBad)
	checkNoSupports(t, values(block(parens, listed)), api.ErrBad)
	checkNoSupports(t, values(block(function("f"), leaf(mark(api.TokCloseParen)))), api.ErrBad)
	checkNoSupports(t, slices.Repeat(values(space), 1500), api.ErrForm)
	checkNoSupports(t, values(leaf(mark(0))), api.ErrForm)
	if c, e := cond.Supports(values(block(function(""), looped()...))); e != api.ErrDeep || !same(c, api.Cond{}) {
		t.Errorf("Supports of a function with a loop = %+v, %v", c, e)
	}
}

func TestSupportsOfOddTokens(t *testing.T) {
	for _, test := range []struct {
		v    []api.Value
		want api.Cond
	}{
		{values(block(parens, word("a"), colon, leaf(mark(api.TokBadURL)))), never()},
		{values(block(parens, word("a\x00"), colon, word("b"))), never()},
		{values(block(parens, word("a"), colon, word(""))), never()},
		{values(block(parens, word("a"), colon, dimension(most+1, "px"))), never()},
		{values(block(function(""), leaf(mark(99)))), never()},
		{values(block(function("url"))), never()},
		{values(space, space, word("NOT"), space, space, block(function("f")), space), not(never())},
		{values(space, block(function("f")), space, space, word("AND"), space, space, block(function("f")), space), all(never(), never())},
	} {
		if c, e := cond.Supports(test.v); e != api.OK || !same(c, test.want) {
			t.Errorf("Supports(%+v) = %+v, %v; want %+v", test.v, c, e, test.want)
		}
	}
}

// P10.1: what is valid.

func checkChecks(t *testing.T, c api.Cond, asMedia, asSupports bool) {
	t.Helper()
	for _, check := range []struct {
		name  string
		valid bool
		got   api.Errno
	}{{"CheckMedia", asMedia, cond.CheckMedia(c)}, {"CheckSupports", asSupports, cond.CheckSupports(c)}} {
		if check.got != api.OK && check.got != api.ErrBad || (check.got == api.OK) != check.valid {
			t.Errorf("%s(%s) = %v", check.name, brief(c, 3), check.got)
		}
	}
	_, e := cond.Text(c)
	_, f := cond.Holds(c, api.Env{Width: -1}, nil)
	if asMedia || asSupports {
		if e != api.OK && e != api.ErrLong || f != api.ErrArg {
			t.Errorf("Text(%s): %v; Holds: %v", brief(c, 3), e, f)
		}
	} else if e != api.ErrBad || f != api.ErrBad {
		t.Errorf("Text(%s): %v; Holds: %v", brief(c, 3), e, f)
	}
	if l, e := cond.Decls(c); (e == api.OK) != asSupports || e != api.OK && (e != api.ErrBad || len(l) > 0) {
		t.Errorf("Decls(%s) = %d, %v", brief(c, 3), len(l), e)
	}
}

func TestCheckMedia(t *testing.T) {
	a := media("a")
	for _, c := range []api.Cond{
		all(),
		{Kind: api.CondAll, List: []api.Cond{}, Decl: api.Decl{Value: values()}},
		either(all(a)),
		either(all(from(0))),
		either(all(upTo(0))),
		either(all(a, from(most), upTo(most))),
		either(all(upTo(5), from(6), upTo(5))),
		either(not(all(a))),
		either(not(all(a, upTo(1), from(2)))),
		either(all(a), not(all(a)), all(from(1)), all(a)),
		either(slices.Repeat([]api.Cond{all(a)}, 64)...),
		either(all(append([]api.Cond{a}, slices.Repeat([]api.Cond{upTo(1)}, 5000)...)...)),
	} {
		checkChecks(t, c, true, false)
	}
	for _, c := range []api.Cond{
		{},
		{Kind: 9},
		{Kind: 255},
		a,
		from(0),
		upTo(0),
		all(a),
		all(from(0)),
		all(all(a)),
		not(all()),
		not(all(a)),
		not(either(all(a))),
		either(),
		either(a),
		either(from(1)),
		either(all()),
		either(all(a), all()),
		either(not(a)),
		either(not(all())),
		either(not(all(from(1)))),
		either(not(all(from(1), a))),
		either(not(all(a, a))),
		either(not(not(all(a)))),
		either(not(either(all(a)))),
		either(group(api.CondNot)),
		either(group(api.CondNot, all(a), all(a))),
		either(either(all(a))),
		either(all(all(a))),
		either(all(not(all(a)))),
		either(all(a, a)),
		either(all(from(1), a)),
		either(all(a, from(1), a)),
		either(all(a, all())),
		either(all(never())),
		either(all(is("a", "b"))),
		either(all(a, is("a", "b"))),
		either(all(a), api.Cond{}),
		either(slices.Repeat([]api.Cond{all(a)}, 65)...),
		either(all(from(-1))),
		either(all(upTo(-1))),
		either(all(from(most + 1))),
		either(all(upTo(most + 1))),
		either(all(a, from(math.MaxInt64))),
		either(all(a, upTo(math.MinInt64))),
	} {
		checkChecks(t, c, false, false)
	}
}

func TestCheckMediaNames(t *testing.T) {
	for s, valid := range map[string]bool{
		"a":                                   true,
		"all":                                 true,
		"-":                                   true,
		"1 !(\n":                              true,
		"\x01":                                true,
		"é":                                   true,
		"[@`{":                                true,
		"an":                                  true,
		"ands":                                true,
		"not ":                                true,
		strings.Repeat("a", 64):               true,
		"é" + strings.Repeat("z", 62):         true,
		"":                                    false,
		"A":                                   false,
		"aZ":                                  false,
		"and":                                 false,
		"or":                                  false,
		"not":                                 false,
		"only":                                false,
		"\x00":                                false,
		"a\x00":                               false,
		strings.Repeat("a", 65):               false,
		"é" + strings.Repeat("z", 63):         false,
		strings.Repeat("a", 100000):           false,
		strings.Repeat("a", 63) + "Z":         false,
		"\x00" + strings.Repeat("\x00", 3999): false,
	} {
		checkChecks(t, either(all(media(s))), valid, false)
		checkChecks(t, either(not(all(media(s), from(1)))), valid, false)
		checkChecks(t, either(all(media("a")), all(media(s), from(1))), valid, false)
	}
}

func TestCheckSupports(t *testing.T) {
	a, b := is("a", "x"), declared("--B")
	for _, c := range []api.Cond{
		a,
		b,
		{Kind: api.CondDecl, Decl: api.Decl{Name: "a", Value: values(word("x")), Important: true}},
		never(),
		{Kind: api.CondNever, List: []api.Cond{}, Decl: api.Decl{Value: values()}},
		not(a),
		not(never()),
		not(not(b)),
		all(a, b),
		all(a, a, a),
		either(a, never()),
		either(never(), a, b, b),
		all(all(a, b), all(a, b)),
		all(either(a, b), not(a)),
		either(either(a, b), all(b, never()), not(either(a, b))),
		not(all(a, either(b, not(never())))),
	} {
		checkChecks(t, c, false, true)
	}
	for _, c := range []api.Cond{
		group(api.CondNot),
		group(api.CondNot, a, a),
		all(a),
		all(never()),
		either(a),
		either(),
		not(all()),
		not(all(a)),
		not(either(a)),
		not(api.Cond{}),
		all(a, api.Cond{}),
		all(api.Cond{}, a),
		either(a, media("a")),
		either(a, from(1)),
		all(upTo(1), a),
		not(media("a")),
		all(a, all()),
		all(a, either(b)),
		all(a, group(api.CondNot)),
		all(all(media("a")), all(media("b"))),
		either(all(media("a")), a),
		{Kind: api.CondDecl},
		{Kind: 9, Decl: a.Decl},
		declared("a"),
		declared(""),
		is("A", "x"),
		is("--", "x"),
		is("a\x00", "x"),
		is(strings.Repeat("a", 65), "x"),
		declared("a", space),
		declared("a", word("x"), space),
		declared("a", leaf(mark(api.TokSemicolon))),
		declared("a", leaf(mark(api.TokCloseParen))),
		declared("a", looped()...),
		not(declared("a")),
		all(a, declared("a")),
		either(declared(""), a),
	} {
		checkChecks(t, c, false, false)
	}
}

// What a kind does not use is 0, or empty.
func TestCheckUnused(t *testing.T) {
	spoils := []func(c *api.Cond){
		func(c *api.Cond) { c.Name = "a" },
		func(c *api.Cond) { c.Num = 1 },
		func(c *api.Cond) { c.Num = -1 },
		func(c *api.Cond) { c.Decl.Name = "a" },
		func(c *api.Cond) { c.Decl.Value = values(word("x")) },
		func(c *api.Cond) { c.Decl.Important = true },
		func(c *api.Cond) { c.Decl = with("a", word("x")) },
		func(c *api.Cond) { c.List = append(slices.Clone(c.List), never()) },
		func(c *api.Cond) { c.List = append(slices.Clone(c.List), media("a")) },
		func(c *api.Cond) { c.List = append(slices.Clone(c.List), api.Cond{}) },
	}
	// uses has the spoils that leave a condition of a kind as valid as it was.
	uses := map[uint8][]int{
		api.CondMedia: {0},
		api.CondMin:   {1},
		api.CondMax:   {1},
		api.CondDecl:  {3, 4, 5, 6},
	}
	asMedia := either(all(media("b"), from(1), upTo(1)), not(all(media("b"))))
	asSupports := all(is("b", "y"), not(is("b", "y")), either(never(), is("b", "y")))
	for i, spoil := range spoils {
		for at := range count(asMedia) {
			c, kind := changed(asMedia, at, spoil)
			checkChecks(t, c, slices.Contains(uses[kind], i), false)
		}
		for at := range count(asSupports) {
			c, kind := changed(asSupports, at, spoil)
			more := i == 7 && (kind == api.CondAll || kind == api.CondAny)
			checkChecks(t, c, false, more || slices.Contains(uses[kind], i))
		}
		empty := all()
		spoil(&empty)
		checkChecks(t, empty, false, false)
	}
}

// count returns how many conditions there are in all.
func count(c api.Cond) int {
	n := 1
	for _, x := range c.List {
		n += count(x)
	}
	return n
}

// changed returns a copy of a condition in which the one with a number is changed, and the kind of this.
func changed(c api.Cond, at int, change func(c *api.Cond)) (api.Cond, uint8) {
	if at == 0 {
		change(&c)
		return c, c.Kind
	}
	at--
	c.List = slices.Clone(c.List)
	for i, x := range c.List {
		if at < count(x) {
			inner, kind := changed(x, at, change)
			c.List[i] = inner
			return c, kind
		}
		at -= count(x)
	}
	panic("no condition with this number")
}

func TestCheckDepth(t *testing.T) {
	blocks := func(count int) api.Cond { return declared("a", chain(count, word("x"))...) }
	for _, test := range []struct {
		c     api.Cond
		depth int
	}{
		{never(), 1},
		{is("a", "x"), 1},
		{declared("--a"), 1},
		{blocks(1), 2},
		{blocks(15), 16},
		{blocks(16), 17},
		{declared("a", append(chain(16), word("x"))...), 17},
		{not(blocks(15)), 16},
		{not(blocks(16)), 17},
		{not(not(blocks(14))), 16},
		{not(not(blocks(15))), 17},
		{nots(15, never()), 15},
		{nots(16, never()), 16},
		{nots(17, never()), 17},
		{nots(16, is("a", "x")), 16},
		{nots(17, is("a", "x")), 17},
		{nots(15, all(never(), never())), 16},
		{nots(16, all(never(), never())), 17},
		{nots(15, either(never(), blocks(0))), 16},
		{nots(15, either(never(), blocks(1))), 17},
		{nots(8, either(never(), nots(8, blocks(0)))), 17},
		{nots(8, either(never(), nots(7, blocks(0)))), 16},
		{nots(8, all(nots(7, blocks(1)), never())), 17},
		{nots(100, never()), 100},
	} {
		checkChecks(t, test.c, false, test.depth <= 16)
	}
}

func TestCheckHowMany(t *testing.T) {
	many := func(n int) []api.Cond { return slices.Repeat([]api.Cond{never()}, n) }
	for _, test := range []struct {
		c     api.Cond
		count int
	}{
		{all(many(1498)...), 1499},
		{all(many(1499)...), 1500},
		{all(many(1500)...), 1501},
		{either(many(1499)...), 1500},
		{either(many(1500)...), 1501},
		{not(either(many(1498)...)), 1500},
		{not(either(many(1499)...)), 1501},
		{all(either(many(700)...), either(many(797)...)), 1500},
		{all(either(many(700)...), either(many(798)...)), 1501},
		{all(either(many(1497)...), never()), 1500},
		{all(either(many(1498)...), never()), 1501},
		{all(never(), either(many(1498)...)), 1501},
		{all(append(many(1497), is("a", "x"), is("a", "x"))...), 1500},
		{all(append(many(1498), is("a", "x"), is("a", "x"))...), 1501},
		{either(many(100000)...), 100001},
	} {
		if got := count(test.c); got != test.count {
			t.Fatalf("there are %d; want %d", got, test.count)
		}
		checkChecks(t, test.c, false, test.count <= 1500)
	}
}

// Conditions may be in their own list, and share lists in more ways than could ever be gone.
func TestCheckEnds(t *testing.T) {
	for _, kind := range []uint8{api.CondAll, api.CondAny, api.CondNot} {
		c := group(kind, never(), never())
		c.List[0] = c
		checkChecks(t, c, false, false)
		c = group(kind, never())
		c.List[0] = c
		checkChecks(t, c, false, false)
		checkChecks(t, either(c), false, false)
		shared := never()
		for range 15 {
			shared = group(kind, slices.Repeat([]api.Cond{shared}, 1000)...)
		}
		checkChecks(t, shared, false, false)
		shared = never()
		for range 15 {
			shared = either(shared, shared, never())
		}
		checkChecks(t, not(shared), false, false)
	}
}

// P10.1: Decls.

func TestDecls(t *testing.T) {
	important := api.Decl{Name: "c", Value: values(word("x")), Important: true}
	deep := with("--D", chain(3, word("x"), space, comma)...)
	a, b := with("a", word("x")), with("b", word("y"))
	for _, test := range []struct {
		c    api.Cond
		want []api.Decl
	}{
		{never(), nil},
		{not(never()), nil},
		{all(never(), never()), nil},
		{is("a", "x"), []api.Decl{a}},
		{not(is("a", "x")), []api.Decl{a}},
		{all(is("b", "y"), never(), is("a", "x"), is("b", "y")), []api.Decl{b, a, b}},
		{either(not(is("b", "y")), all(is("a", "x"), api.Cond{Kind: api.CondDecl, Decl: important}), is("a", "x")), []api.Decl{b, a, important, a}},
		{either(all(never(), api.Cond{Kind: api.CondDecl, Decl: deep}), is("a", "x")), []api.Decl{deep, a}},
	} {
		if l, e := cond.Decls(test.c); e != api.OK || !slices.EqualFunc(l, test.want, sameDecl) {
			t.Errorf("Decls(%+v) = %+v, %v; want %+v", test.c, l, e, test.want)
		}
	}
}

// P10.3: Holds.

func TestMediaHolds(t *testing.T) {
	for _, test := range []struct {
		text     string
		width    int64
		expected bool
	}{
		{"", 0, true},
		{"", 1000000000, true},
		{"all", 0, true},
		{"screen", 0, true},
		{"SCREEN", 0, true},
		{"only screen", 0, true},
		{"print", 0, false},
		{"screens", 0, false},
		{"al", 0, false},
		{"not all", 0, false},
		{"not screen", 0, false},
		{"not print", 0, true},
		{"foo bar", 0, false},
		{"(min-width:600px)", 599, false},
		{"(min-width:600px)", 600, true},
		{"(min-width:600px)", 601, true},
		{"(max-width:600px)", 599, true},
		{"(max-width:600px)", 600, true},
		{"(max-width:600px)", 601, false},
		{"(min-width:599.001px)", 599, false},
		{"(min-width:599.999px)", 600, true},
		{"(max-width:599.999px)", 599, true},
		{"(max-width:599.999px)", 600, false},
		{"(min-width:0)", 0, true},
		{"(max-width:0)", 0, true},
		{"(max-width:0)", 1, false},
		{"(min-width:1000000000px)", 999999999, false},
		{"(min-width:1000000000px)", 1000000000, true},
		{"(max-width:1000000000px)", 1000000000, true},
		{"(min-width:999999999.999px)", 999999999, false},
		{"screen and (min-width:5px)", 4, false},
		{"screen and (min-width:5px)", 5, true},
		{"print and (min-width:5px)", 5, false},
		{"not screen and (min-width:5px)", 4, true},
		{"not screen and (min-width:5px)", 5, false},
		{"not print and (min-width:5px)", 5, true},
		{"(min-width:5px) and (max-width:7px)", 4, false},
		{"(min-width:5px) and (max-width:7px)", 5, true},
		{"(min-width:5px) and (max-width:7px)", 7, true},
		{"(min-width:5px) and (max-width:7px)", 8, false},
		{"(min-width:7px) and (max-width:5px)", 6, false},
		{"print, (min-width:5px)", 5, true},
		{"print, (min-width:5px)", 4, false},
		{"(min-width:5px), screen, print", 4, true},
		{"print, print", 4, false},
		{"print, foo bar, all", 4, true},
		{"not all, not all", 4, false},
	} {
		c, e := cond.Media(valuesOf(t, test.text))
		if e != api.OK {
			t.Errorf("Media of %q: %v", test.text, e)
		}
		checkHolds(t, c, test.width, test.expected)
	}
}

func TestSupportsHolds(t *testing.T) {
	for _, test := range []struct {
		text     string
		yes      string
		expected bool
	}{
		{"(a:b)", "T", true},
		{"(a:b)", "F", false},
		{"f()", "", false},
		{"(a)", "", false},
		{"not f()", "", true},
		{"not (a:b)", "T", false},
		{"not (a:b)", "F", true},
		{"not (not (a:b))", "T", true},
		{"(a:b) and (c:d)", "TT", true},
		{"(a:b) and (c:d)", "TF", false},
		{"(a:b) and (c:d)", "FT", false},
		{"(a:b) and (c:d)", "FF", false},
		{"(a:b) or (c:d)", "TT", true},
		{"(a:b) or (c:d)", "TF", true},
		{"(a:b) or (c:d)", "FT", true},
		{"(a:b) or (c:d)", "FF", false},
		{"(a:b) and f()", "T", false},
		{"(a:b) or f()", "T", true},
		{"f() or (a:b)", "F", false},
		{"(a:b) and (c:d) and (e:f)", "TTT", true},
		{"(a:b) and (c:d) and (e:f)", "TTF", false},
		{"(a:b) or (c:d) or (e:f)", "FFT", true},
		// One that tells enough leaves the truth values of the others where they are.
		{"((a:b) or (c:d)) and (e:f)", "TFT", true},
		{"((a:b) or (c:d)) and (e:f)", "TTF", false},
		{"((a:b) and (c:d)) or (e:f)", "FTF", false},
		{"((a:b) and (c:d)) or (e:f)", "FFT", true},
		{"((a:b) and f()) or (not (c:d)) or (e:f)", "TTF", false},
		{"((a:b) and f()) or (not (c:d)) or (e:f)", "TFF", true},
		{"(not (a:b)) and ((c:d) or (not (e:f)))", "FFT", false},
		{"(not (a:b)) and ((c:d) or (not (e:f)))", "FFF", true},
		{"((a:b) or (a:b)) and ((a:b) or (a:b))", "FTTF", true},
		{"((a:b) or (a:b)) and ((a:b) or (a:b))", "TTFF", false},
	} {
		c, e := cond.Supports(valuesOf(t, test.text))
		if e != api.OK {
			t.Errorf("Supports of %q: %v", test.text, e)
		}
		var yes []bool
		for _, b := range test.yes {
			yes = append(yes, b == 'T')
		}
		checkHolds(t, c, 0, test.expected, yes...)
		checkHolds(t, c, 1000000000, test.expected, yes...)
	}
}

func TestHoldsErrors(t *testing.T) {
	a := is("a", "x")
	for _, test := range []struct {
		c     api.Cond
		width int64
		yes   int
		want  api.Errno
	}{
		{all(), 0, 0, api.OK},
		{all(), -1, 0, api.ErrArg},
		{all(), math.MinInt64, 0, api.ErrArg},
		{all(), 1000000000, 0, api.OK},
		{all(), 1000000001, 0, api.ErrArg},
		{all(), math.MaxInt64, 0, api.ErrArg},
		{all(), 0, 1, api.ErrArg},
		{either(all(media("all"))), 0, 0, api.OK},
		{either(all(media("all"))), 0, 1, api.ErrArg},
		{either(all(media("all"))), -1, 0, api.ErrArg},
		{a, 0, 1, api.OK},
		{a, 0, 0, api.ErrArg},
		{a, 0, 2, api.ErrArg},
		{a, -1, 1, api.ErrArg},
		{a, 1000000000, 1, api.OK},
		{a, 1000000001, 1, api.ErrArg},
		{never(), 0, 0, api.OK},
		{never(), 0, 1, api.ErrArg},
		{all(a, not(a), either(a, never())), 0, 3, api.OK},
		{all(a, not(a), either(a, never())), 0, 2, api.ErrArg},
		{all(a, not(a), either(a, never())), 0, 4, api.ErrArg},
		{api.Cond{}, 0, 0, api.ErrBad},
		{api.Cond{}, -1, 1, api.ErrBad},
		{all(a), 0, 1, api.ErrBad},
		{all(a), -1, 0, api.ErrBad},
		{either(all(from(-1))), 0, 0, api.ErrBad},
	} {
		// Something holds, so that an error is not taken for an answer.
		holds, e := cond.Holds(test.c, api.Env{Width: test.width}, slices.Repeat([]bool{true}, test.yes))
		if e != test.want || e != api.OK && holds {
			t.Errorf("Holds(%+v, %d, %d of true) = %v, %v; want %v", test.c, test.width, test.yes, holds, e, test.want)
		}
	}
}

// P10.3: Text.

func TestMediaText(t *testing.T) {
	a := media("a")
	for want, c := range map[string]api.Cond{
		"":                                       all(),
		"a":                                      either(all(a)),
		"not a":                                  either(not(all(a))),
		"not all":                                either(notAll()),
		"a, not a, a":                            either(all(a), not(all(a)), all(a)),
		"(min-width: 0px)":                       either(all(from(0))),
		"(max-width: 0.001px)":                   either(all(upTo(1))),
		"(min-width: 10.5px)":                    either(all(from(10500))),
		"(max-width: 1000000000px)":              either(all(upTo(most))),
		"(max-width: 999999999.999px)":           either(all(upTo(most - 1))),
		"a and (min-width: 1px)":                 either(all(a, from(1000))),
		"not a and (min-width: 1px)":             either(not(all(a, from(1000)))),
		"a and (min-width: 1px), b":              either(all(a, from(1000)), all(media("b"))),
		"(min-width: 1px) and (max-width: 20px)": either(all(from(1000), upTo(20000))),
		"a and (max-width: 1px) and (max-width: 1px)": either(all(a, upTo(1000), upTo(1000))),
		`\31 \20 \,`: either(all(media("1 ,"))),
		`not \-`:     either(not(all(media("-")))),
		"min-width":  either(all(media("min-width"))),
		`\a é\(`:     either(all(media("\né("))),
	} {
		checkText(t, c, want)
	}
}

func TestSupportsText(t *testing.T) {
	a, b := is("a", "x"), declared("--B")
	important := api.Cond{Kind: api.CondDecl, Decl: api.Decl{Name: "a", Value: values(word("x"), word("y")), Important: true}}
	for want, c := range map[string]api.Cond{
		"(a: x)":                                    a,
		"(--B: )":                                   b,
		"(a: x/**/y !important)":                    important,
		"(unknown)":                                 never(),
		"not (unknown)":                             not(never()),
		"not (a: x)":                                not(a),
		"not (not (a: x))":                          not(not(a)),
		"(a: x) and (--B: )":                        all(a, b),
		"(a: x) or (--B: )":                         either(a, b),
		"(a: x) or (--B: ) or (unknown)":            either(a, b, never()),
		"(unknown) and (a: x) and (--B: )":          all(never(), a, b),
		"((a: x) and (a: x)) and (a: x)":            all(all(a, a), a),
		"(a: x) and ((a: x) and (a: x))":            all(a, all(a, a)),
		"((a: x) or (--B: )) or (not (unknown))":    either(either(a, b), not(never())),
		"not ((a: x) and (--B: ))":                  not(all(a, b)),
		"not ((a: x) or (not (--B: )))":             not(either(a, not(b))),
		`(\31 \20 : (\:))`:                          declared("1 ", block(parens, word(":"))),
		"(not: f(x)) and ((unknown) or (and: and))": all(declared("not", block(function("f"), word("x"))), either(never(), is("and", "and"))),
	} {
		checkText(t, c, want)
	}
}

// The long ones have a text with as many bytes.

func longMedia(n int) api.Cond {
	l := slices.Repeat([]api.Cond{all(media(strings.Repeat("a", 64)))}, 60)
	return either(append(l, all(media(strings.Repeat("b", n-60*len(", ")-60*64))))...)
}

func longFeatures(n int) api.Cond {
	l := slices.Repeat([]api.Cond{upTo(1000)}, 188)
	return either(all(append([]api.Cond{media(strings.Repeat("b", n-188*len(" and (max-width: 1px)")))}, l...)...))
}

func longDecl(n int) api.Cond { return is("a", strings.Repeat("x", n-len("(a: )"))) }

func longSupports(n int) api.Cond {
	return all(append(slices.Repeat([]api.Cond{never()}, 200), longDecl(n-200*len("(unknown) and ")))...)
}

func TestTextErrors(t *testing.T) {
	for n := 3990; n < 4010; n++ {
		for _, c := range []api.Cond{longMedia(n), longFeatures(n), longSupports(n), not(longSupports(n - len("not ()"))), longDecl(n)} {
			s, e := cond.Text(c)
			if n <= 4000 && (e != api.OK || len(s) != n) || n > 4000 && (e != api.ErrLong || s != "") {
				t.Errorf("Text of %d bytes: %d bytes, %v", n, len(s), e)
			}
		}
	}
	for _, c := range []api.Cond{
		either(all(slices.Repeat([]api.Cond{from(1)}, 1000000)...)),
		all(slices.Repeat([]api.Cond{longDecl(4000)}, 1499)...),
		nots(16, longDecl(3999)),
	} {
		if s, e := cond.Text(c); e != api.ErrLong || s != "" {
			t.Errorf("Text = %.100q, %v", s, e)
		}
	}
	for _, c := range []api.Cond{{}, all(never()), either(), media("a"), {Kind: 77}, declared("a", slices.Repeat(values(comma), 1501)...)} {
		if s, e := cond.Text(c); e != api.ErrBad || s != "" {
			t.Errorf("Text(%s) = %.100q, %v", brief(c, 3), s, e)
		}
	}
}
