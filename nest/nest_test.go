package nest_test

import (
	"slices"
	"strings"
	"testing"

	"vitrine/api"
	"vitrine/nest"
	"vitrine/token"
)

func mark(kind uint8) api.Token   { return api.Token{Kind: kind} }
func ident(s string) api.Token    { return api.Token{Kind: api.TokIdent, Text: s} }
func function(s string) api.Token { return api.Token{Kind: api.TokFunction, Text: s} }
func str(s string) api.Token      { return api.Token{Kind: api.TokString, Text: s} }
func delim(s string) api.Token    { return api.Token{Kind: api.TokDelim, Text: s} }

var (
	space       = mark(api.TokSpace)
	comma       = mark(api.TokComma)
	openSquare  = mark(api.TokOpenSquare)
	closeSquare = mark(api.TokCloseSquare)
	openParen   = mark(api.TokOpenParen)
	closeParen  = mark(api.TokCloseParen)
	openCurly   = mark(api.TokOpenCurly)
	closeCurly  = mark(api.TokCloseCurly)
)

func list(l ...api.Token) []api.Token   { return l }
func values(v ...api.Value) []api.Value { return v }

// leaf is the value that a token is by itself, block that of an opener with what is in it.
func leaf(t api.Token) api.Value                    { return api.Value{Token: t} }
func block(t api.Token, v ...api.Value) api.Value   { return api.Value{Token: t, List: v} }
func parens(v ...api.Value) api.Value               { return block(openParen, v...) }
func squares(v ...api.Value) api.Value              { return block(openSquare, v...) }
func curlies(v ...api.Value) api.Value              { return block(openCurly, v...) }
func name(s string) api.Value                       { return leaf(ident(s)) }
func call(s string, v ...api.Value) api.Value       { return block(function(s), v...) }
func many(x api.Value, count int) []api.Value       { return slices.Repeat(values(x), count) }
func manyTokens(x api.Token, count int) []api.Token { return slices.Repeat(list(x), count) }

// chain is a value in as many blocks, each in the next one.
func chain(opener api.Token, count int, x ...api.Value) []api.Value {
	for range count {
		x = values(block(opener, x...))
	}
	return x
}

// same compares values, of which an empty list is like none.
func same(v, w []api.Value) bool {
	return slices.EqualFunc(v, w, func(x, y api.Value) bool { return x.Token == y.Token && same(x.List, y.List) })
}

func tokensOf(t *testing.T, s string) []api.Token {
	t.Helper()
	l, e := token.Tokens(s)
	if e != api.OK {
		t.Fatalf("Tokens(%q): %v", s, e)
	}
	return l
}

func valuesOf(t *testing.T, s string) []api.Value {
	t.Helper()
	v, e := nest.Parse(tokensOf(t, s))
	if e != api.OK {
		t.Fatalf("Parse of %q: %v", s, e)
	}
	return v
}

// P4.1: the values of tokens.

func TestParseTexts(t *testing.T) {
	x, y := name("x"), name("y")
	for s, want := range map[string][]api.Value{
		"":             nil,
		"x":            {x},
		"x y":          {x, leaf(space), y},
		"()":           {parens()},
		"[]":           {squares()},
		"{}":           {curlies()},
		"f()":          {call("f")},
		"(x)y":         {parens(x), y},
		"[x]y":         {squares(x), y},
		"{x}y":         {curlies(x), y},
		"f(x)y":        {call("f", x), y},
		"f( x )":       {call("f", leaf(space), x, leaf(space))},
		"f x(y)":       {name("f"), leaf(space), call("x", y)},
		"f (x)":        {name("f"), leaf(space), parens(x)},
		"(x)(y)":       {parens(x), parens(y)},
		"((x)y)":       {parens(parens(x), y)},
		"f(g(x)[y]{})": {call("f", call("g", x), squares(y), curlies())},
		// Missing closers.
		"(":     {parens()},
		"(x":    {parens(x)},
		"f(x":   {call("f", x)},
		"([{f(": {parens(squares(curlies(call("f"))))},
		"(x[y":  {parens(x, squares(y))},
		"((x)y": {parens(parens(x), y)},
		// Closers where no block is open, and those of other blocks.
		")":        {leaf(closeParen)},
		"]":        {leaf(closeSquare)},
		"}":        {leaf(closeCurly)},
		"x)]}y":    {x, leaf(closeParen), leaf(closeSquare), leaf(closeCurly), y},
		"())":      {parens(), leaf(closeParen)},
		")(":       {leaf(closeParen), parens()},
		"(]})x":    {parens(leaf(closeSquare), leaf(closeCurly)), x},
		"[)}]x":    {squares(leaf(closeParen), leaf(closeCurly)), x},
		"{)]}x":    {curlies(leaf(closeParen), leaf(closeSquare)), x},
		"f(]})x":   {call("f", leaf(closeSquare), leaf(closeCurly)), x},
		"[(])x]y":  {squares(parens(leaf(closeSquare)), x), y},
		"[(]x":     {squares(parens(leaf(closeSquare), x))},
		"{f(})}x":  {curlies(call("f", leaf(closeCurly))), x},
		"a(b[c)d":  {call("a", name("b"), squares(name("c"), leaf(closeParen), name("d")))},
		"(f(x)y)x": {parens(call("f", x), y), x},
	} {
		if got := valuesOf(t, s); !same(got, want) {
			t.Errorf("Parse of %q: %+v, want %+v", s, got, want)
		}
	}
}

func TestParseTakesAnyToken(t *testing.T) {
	odd := api.Token{Text: "x\x00", Num: -1 << 63, Unit: "y", Flag: true}
	for kind := range 256 {
		x := odd
		x.Kind = uint8(kind)
		v, e := nest.Parse(list(x, ident("a"), ident("b")))
		want := values(leaf(x), name("a"), name("b"))
		switch x.Kind {
		case api.TokFunction, api.TokOpenSquare, api.TokOpenParen, api.TokOpenCurly:
			want = values(block(x, name("a"), name("b")))
		}
		if e != api.OK || !same(v, want) {
			t.Errorf("Parse with the kind %d: %+v, %v; want %+v", kind, v, e, want)
		}
	}
}

func TestEachOpenerHasOneCloser(t *testing.T) {
	for opener, closer := range map[uint8]uint8{
		api.TokFunction:   api.TokCloseParen,
		api.TokOpenSquare: api.TokCloseSquare,
		api.TokOpenParen:  api.TokCloseParen,
		api.TokOpenCurly:  api.TokCloseCurly,
	} {
		for kind := range 256 {
			x := api.Token{Kind: uint8(kind), Text: "x"}
			v, e := nest.Parse(list(mark(opener), x, ident("a")))
			if closes := e == api.OK && same(v, values(block(mark(opener)), name("a"))); closes != (x.Kind == closer) {
				t.Errorf("the kind %d behind %d: %+v, %v", kind, opener, v, e)
			}
		}
	}
}

func TestParseTooManyTokens(t *testing.T) {
	for _, c := range []struct {
		openers int
		token   api.Token
		count   int
		want    api.Errno
	}{
		{0, ident("a"), 1500, api.OK},
		{0, ident("a"), 1501, api.ErrMany},
		{0, closeParen, 1500, api.OK},
		{0, closeParen, 1501, api.ErrMany},
		{0, mark(0), 5000, api.ErrMany},
		{1, ident("a"), 1498, api.OK},
		{1, ident("a"), 1499, api.ErrMany},
		{1, closeParen, 1499, api.OK},
		{1, closeParen, 1500, api.ErrMany},
		{1, closeSquare, 1498, api.OK},
		{1, closeSquare, 1499, api.ErrMany},
		{16, ident("a"), 1468, api.OK},
		{16, ident("a"), 1469, api.ErrMany},
		{16, ident("a"), 1484, api.ErrMany},
		{16, ident("a"), 1485, api.ErrMany},
		{16, closeParen, 1484, api.OK},
		{17, ident("a"), 1000, api.ErrDeep},
		{17, ident("a"), 1483, api.ErrDeep},
		{17, ident("a"), 1484, api.ErrMany},
		{1500, ident("a"), 0, api.ErrDeep},
		{1501, ident("a"), 0, api.ErrMany},
	} {
		l := append(manyTokens(openParen, c.openers), manyTokens(c.token, c.count)...)
		v, e := nest.Parse(l)
		if e != c.want || (v == nil) != (e != api.OK) {
			t.Errorf("Parse of %d openers and %d tokens %+v: %d values, %v; want %v", c.openers, c.count, c.token, len(v), e, c.want)
		}
	}
}

func TestParseTooDeep(t *testing.T) {
	for s, want := range map[string]api.Errno{
		strings.Repeat("(", 16):                                  api.OK,
		strings.Repeat("(", 17):                                  api.ErrDeep,
		strings.Repeat("(", 16) + strings.Repeat(")", 16):        api.OK,
		strings.Repeat("(", 17) + strings.Repeat(")", 17):        api.ErrDeep,
		strings.Repeat("[", 17):                                  api.ErrDeep,
		strings.Repeat("{", 17):                                  api.ErrDeep,
		strings.Repeat("f(", 16):                                 api.OK,
		strings.Repeat("f(", 17):                                 api.ErrDeep,
		strings.Repeat("([{f(", 4):                               api.OK,
		strings.Repeat("([{f(", 4) + "a":                         api.OK,
		strings.Repeat("([{f(", 4) + "[]":                        api.ErrDeep,
		strings.Repeat("()", 700):                                api.OK,
		strings.Repeat("(", 16) + ")()()":                        api.OK,
		strings.Repeat("(", 16) + ")(()":                         api.ErrDeep,
		strings.Repeat("(", 16) + "]":                            api.OK,
		strings.Repeat("(", 16) + "](":                           api.ErrDeep,
		strings.Repeat("(", 16) + strings.Repeat(")", 16) + "([": api.OK,
		strings.Repeat("[(])", 16) + "((":                        api.ErrDeep,
	} {
		if v, e := nest.Parse(tokensOf(t, s)); e != want || (v == nil) != (e != api.OK) {
			t.Errorf("Parse of %q: %d values, %v; want %v", s, len(v), e, want)
		}
	}
}

// P4.1: what values are valid.

func TestCheck(t *testing.T) {
	inIdent := api.Value{Token: ident("a"), List: values(name("b"))}
	for _, c := range []struct {
		values []api.Value
		want   api.Errno
	}{
		{nil, api.OK},
		{values(), api.OK},
		{values(leaf(mark(0)), leaf(mark(255)), leaf(mark(api.TokBadString)), leaf(delim(""))), api.OK},
		{values(leaf(closeParen), leaf(closeSquare), leaf(closeCurly)), api.OK},
		{values(parens(), squares(), curlies(), call("")), api.OK},
		{values(api.Value{Token: ident("a"), List: values()}), api.OK},
		// A list of what is no block.
		{values(inIdent), api.ErrBad},
		{values(name("a"), inIdent, name("b")), api.ErrBad},
		{values(parens(squares(curlies(inIdent)))), api.ErrBad},
		{values(block(closeParen, name("a"))), api.ErrBad},
		{values(block(mark(0), leaf(mark(0)))), api.ErrBad},
		// A block with closers in it.
		{values(parens(leaf(closeSquare), leaf(closeCurly))), api.OK},
		{values(squares(leaf(closeParen), leaf(closeCurly))), api.OK},
		{values(curlies(leaf(closeParen), leaf(closeSquare))), api.OK},
		{values(call("f", leaf(closeSquare), leaf(closeCurly))), api.OK},
		{values(parens(leaf(closeParen))), api.ErrBad},
		{values(squares(leaf(closeSquare))), api.ErrBad},
		{values(curlies(leaf(closeCurly))), api.ErrBad},
		{values(call("f", leaf(closeParen))), api.ErrBad},
		{values(parens(name("a"), leaf(closeParen), name("b"))), api.ErrBad},
		{values(parens(name("a")), parens(leaf(api.Token{Kind: api.TokCloseParen, Text: "x"}))), api.ErrBad},
		{values(parens(squares(leaf(closeParen)))), api.OK},
		{values(parens(squares(leaf(closeSquare)))), api.ErrBad},
		{values(parens(squares(), leaf(closeParen))), api.ErrBad},
		{values(parens(squares(leaf(closeParen), curlies(leaf(closeSquare)), leaf(closeCurly)))), api.OK},
		// How deep.
		{chain(openParen, 16), api.OK},
		{chain(openParen, 16, name("a")), api.OK},
		{chain(openParen, 17), api.ErrDeep},
		{chain(function("f"), 17), api.ErrDeep},
		{chain(openSquare, 65536), api.ErrDeep},
		{append(chain(openCurly, 16), chain(openParen, 16)...), api.OK},
		{append(many(name("a"), 1400), chain(openParen, 17)...), api.ErrDeep},
		{values(parens(append(chain(openSquare, 15), chain(openCurly, 16)...)...)), api.ErrDeep},
		// How many.
		{many(name("a"), 1500), api.OK},
		{many(name("a"), 1501), api.ErrMany},
		{many(parens(), 750), api.OK},
		{many(parens(), 751), api.ErrMany},
		{append(many(parens(), 750), name("a")), api.ErrMany},
		{append(many(call("f", name("a")), 499), name("a"), name("b"), name("c")), api.OK},
		{append(many(call("f", name("a")), 500), name("a")), api.ErrMany},
		{chain(openParen, 16, many(name("a"), 1468)...), api.OK},
		{chain(openParen, 16, many(name("a"), 1469)...), api.ErrMany},
		{values(parens(many(name("a"), 1498)...)), api.OK},
		{values(parens(many(name("a"), 1499)...)), api.ErrMany},
		{values(parens(many(parens(), 749)...)), api.OK},
		{values(parens(many(parens(), 750)...)), api.ErrMany},
		// Which one is told of several.
		{append(many(name("a"), 1501), chain(openParen, 17)...), api.ErrDeep},
		{append(values(inIdent), chain(openParen, 17)...), api.ErrDeep},
		{append(chain(openParen, 17), inIdent), api.ErrDeep},
		{chain(openParen, 17, leaf(closeParen)), api.ErrDeep},
		{append(values(inIdent), many(name("a"), 1500)...), api.ErrMany},
		{append(values(parens(leaf(closeParen))), many(name("a"), 1498)...), api.ErrMany},
		{many(parens(leaf(closeParen)), 500), api.ErrBad},
		// What is in the list of no block does not count.
		{values(block(ident("a"), chain(openParen, 17)...)), api.ErrBad},
		{values(block(ident("a"), many(name("a"), 2000)...)), api.ErrBad},
		{chain(openParen, 16, block(ident("a"), parens())), api.ErrBad},
	} {
		if e := nest.Check(c.values); e != c.want {
			t.Errorf("Check of %d values, %.200v: %v, want %v", len(c.values), c.values, e, c.want)
		}
		checkedFirst(t, c.values, c.want)
	}
}

// checkedFirst checks that all functions with values return Check's error, and then nothing else.
func checkedFirst(t *testing.T, v []api.Value, want api.Errno) {
	t.Helper()
	l, flat := nest.Flat(v)
	depth, deep := nest.Depth(v)
	trimmed, trim := nest.Trim(v)
	parts, split := nest.Split(v, api.TokComma)
	if flat != want || deep != want || trim != want || split != want {
		t.Errorf("with %.200v: %v, %v, %v, %v; want %v", v, flat, deep, trim, split, want)
	}
	if want == api.OK {
		return
	}
	s, text := nest.Text(v)
	none, noKind := nest.Split(v, 0)
	if text != want || noKind != want {
		t.Errorf("with %.200v: Text %v, Split %v; want %v", v, text, noKind, want)
	}
	if l != nil || depth != 0 || trimmed != nil || parts != nil || s != "" || none != nil {
		t.Errorf("with %.200v there are results beside the error %v", v, want)
	}
}

func TestOnlyBlocksHaveLists(t *testing.T) {
	for kind := range 256 {
		x := api.Token{Kind: uint8(kind), Text: "x", Num: 7, Unit: "y", Flag: true}
		want := api.ErrBad
		switch x.Kind {
		case api.TokFunction, api.TokOpenSquare, api.TokOpenParen, api.TokOpenCurly:
			want = api.OK
		}
		if e := nest.Check(values(leaf(x))); e != api.OK {
			t.Errorf("Check of the kind %d: %v", kind, e)
		}
		if e := nest.Check(values(block(x, name("a")))); e != want {
			t.Errorf("Check of the kind %d with a list: %v, want %v", kind, e, want)
		}
	}
}

// Lists that are inside themselves are deeper than any depth; those that share what is in them may be more than anyone could count.
func TestListsThatShareMemory(t *testing.T) {
	inItself := many(parens(), 3)
	inItself[2].List = inItself
	inTail := many(squares(), 1500)
	for i := range inTail {
		inTail[i].List = inTail[i+1:]
	}
	for _, v := range [][]api.Value{inItself, inTail, values(call("f", inItself...)), append(many(name("a"), 2000), inItself...)} {
		if e := nest.Check(v); e != api.ErrDeep {
			t.Errorf("Check of lists in themselves: %v", e)
		}
		checkedFirst(t, v, api.ErrDeep)
	}
	for _, c := range []struct {
		count int
		want  api.Errno
	}{{15, api.ErrMany}, {16, api.ErrDeep}, {17, api.ErrDeep}} {
		shared := many(parens(), 40)
		for range c.count {
			shared = many(parens(shared...), 40)
		}
		checkedFirst(t, shared, c.want)
	}
	shared := many(name("a"), 10)
	good := values(parens(shared...), squares(shared[:5]...), parens(parens(shared[2:]...)))
	checkedFirst(t, good, api.OK)
}

// P4.2

func TestFlat(t *testing.T) {
	a, b := ident("a"), ident("b")
	odd := api.Token{Kind: api.TokOpenParen, Text: "x", Num: 1, Unit: "y", Flag: true}
	for _, c := range []struct {
		values []api.Value
		want   []api.Token
	}{
		{nil, nil},
		{values(leaf(a)), list(a)},
		{values(parens(), squares(), curlies(), call("f")), list(openParen, closeParen, openSquare, closeSquare, openCurly, closeCurly, function("f"), closeParen)},
		{values(leaf(a), parens(leaf(b)), leaf(a)), list(a, openParen, b, closeParen, a)},
		{values(call("f", squares(leaf(a), curlies()), leaf(b))), list(function("f"), openSquare, a, openCurly, closeCurly, closeSquare, b, closeParen)},
		{values(leaf(closeParen), squares(leaf(closeParen))), list(closeParen, openSquare, closeParen, closeSquare)},
		// Tokens that cannot be written are tokens, too.
		{values(block(odd, leaf(mark(0))), leaf(mark(api.TokBadURL))), list(odd, mark(0), closeParen, mark(api.TokBadURL))},
		{values(leaf(str(strings.Repeat("a", 5000)))), list(str(strings.Repeat("a", 5000)))},
	} {
		if got, e := nest.Flat(c.values); e != api.OK || !slices.Equal(got, c.want) {
			t.Errorf("Flat(%+v) = %+v, %v; want %+v", c.values, got, e, c.want)
		}
	}
}

func TestTexts(t *testing.T) {
	for s, want := range map[string]string{
		"":                     "",
		"a":                    "a",
		"a{b(c)[d]}e":          "a{b(c)[d]}e",
		"rgb(1,2,3":            "rgb(1,2,3)",
		"[(}])":                "[(}])]",
		"x ) y":                "x ) y",
		"a(b[c)d":              "a(b[c)d])",
		"([{f(":                "([{f()}])",
		"a/**/b(/**/c/**/d)":   "a/**/b(c/**/d)",
		"a/**/(b)":             "a/**/(b)",
		"a (b)":                "a (b)",
		"f(\\\n":               "f(\\\n)",
		"url('a'":              "url(\"a\")",
		"  ( /* x */ )  ":      " ( /**/ ) ",
		"@a{--b:{c:1.50px}}\n": "@a{--b:{c:1.5px}} ",
	} {
		if got, e := nest.Text(valuesOf(t, s)); e != api.OK || got != want {
			t.Errorf("Text of %q: %q, %v; want %q", s, got, e, want)
		}
	}
}

func TestTextsThatCannotBeWritten(t *testing.T) {
	long := strings.Repeat("a", 3998)
	for _, c := range []struct {
		values []api.Value
		want   api.Errno
	}{
		{values(leaf(mark(0))), api.ErrBad},
		{values(leaf(mark(api.TokBadString))), api.ErrBad},
		{values(parens(name("a"), squares(leaf(mark(api.TokBadURL))))), api.ErrBad},
		{values(call("", name("a"))), api.ErrBad},
		{values(block(api.Token{Kind: api.TokOpenParen, Flag: true}, name("a"))), api.ErrBad},
		{values(call("url")), api.ErrBad},
		{values(call("URL", name("a"))), api.ErrBad},
		{values(call("url"), leaf(str("a"))), api.ErrBad},
		{values(call("url", leaf(space), leaf(str("a")))), api.OK},
		{values(parens(leaf(delim(`\`)))), api.ErrBad},
		{values(parens(leaf(delim(`\`))), leaf(space)), api.ErrBad},
		{values(parens(leaf(delim(`\`)), leaf(space))), api.OK},
		{values(parens(name(long))), api.OK},
		{values(parens(name(long + "a"))), api.ErrLong},
		{values(parens(name(long+"a")), leaf(mark(0))), api.ErrBad},
		{many(name("aaa"), 600), api.ErrLong},
	} {
		s, e := nest.Text(c.values)
		if e != c.want || (s == "") != (e != api.OK) {
			t.Errorf("Text(%.200v) = %.40q, %v; want %v", c.values, s, e, c.want)
		}
		checkedFirst(t, c.values, api.OK)
	}
}

func TestDepth(t *testing.T) {
	for _, c := range []struct {
		values []api.Value
		want   int
	}{
		{nil, 0},
		{values(name("a"), leaf(closeParen)), 0},
		{values(parens()), 1},
		{values(call("f", name("a"))), 1},
		{values(squares(), curlies(), call("f")), 1},
		{values(parens(squares())), 2},
		{values(parens(squares()), name("a"), parens()), 2},
		{values(parens(), parens(squares(), squares(curlies(), call("f", name("a")))), parens(squares())), 3},
		{chain(openCurly, 15), 15},
		{chain(openCurly, 16), 16},
		{chain(openCurly, 16, name("a")), 16},
	} {
		if got, e := nest.Depth(c.values); e != api.OK || got != c.want {
			t.Errorf("Depth(%+v) = %d, %v; want %d", c.values, got, e, c.want)
		}
	}
}

// P4.3

func TestTrim(t *testing.T) {
	a, b, s := name("a"), name("b"), leaf(space)
	odd := leaf(api.Token{Kind: api.TokSpace, Text: "x", Num: 1})
	for _, c := range []struct{ values, want []api.Value }{
		{nil, nil},
		{values(s), nil},
		{values(s, s, s), nil},
		{values(a), values(a)},
		{values(s, a), values(a)},
		{values(a, s), values(a)},
		{values(s, a, s), values(a)},
		{values(s, s, a, s, s, s), values(a)},
		{values(s, a, s, s, b, s), values(a, s, s, b)},
		{values(odd, a, odd), values(a)},
		{values(s, parens(s, a, s), s), values(parens(s, a, s))},
		{values(parens(s), s), values(parens(s))},
		{values(s, leaf(comma), s), values(leaf(comma))},
		{values(leaf(mark(0)), s, leaf(closeParen)), values(leaf(mark(0)), s, leaf(closeParen))},
	} {
		if got, e := nest.Trim(c.values); e != api.OK || !same(got, c.want) {
			t.Errorf("Trim(%+v) = %+v, %v; want %+v", c.values, got, e, c.want)
		}
	}
}

func TestSplit(t *testing.T) {
	for _, c := range []struct {
		text string
		kind uint8
		want []string
	}{
		{"", api.TokComma, []string{""}},
		{"a", api.TokComma, []string{"a"}},
		{",", api.TokComma, []string{"", ""}},
		{",,", api.TokComma, []string{"", "", ""}},
		{"a,b", api.TokComma, []string{"a", "b"}},
		{",a,", api.TokComma, []string{"", "a", ""}},
		{"a, b(c,d) ,e", api.TokComma, []string{"a", " b(c,d) ", "e"}},
		{"[,](,){,}", api.TokComma, []string{"[,](,){,}"}},
		{"a:b;c", api.TokSemicolon, []string{"a:b", "c"}},
		{"a:b;c", api.TokColon, []string{"a", "b;c"}},
		{" a b ", api.TokSpace, []string{"", "a", "b", ""}},
		{"a(b)c[d]e{f}g", api.TokOpenParen, []string{"a(b)c[d]e{f}g"}},
		{"a (b)c[d]e{f}g", api.TokOpenParen, []string{"a ", "c[d]e{f}g"}},
		{"a(b)c[d]e{f}g", api.TokFunction, []string{"", "c[d]e{f}g"}},
		{"a(b)c[d]e{f}g", api.TokOpenSquare, []string{"a(b)c", "e{f}g"}},
		{"a(b)c[d]e{f}g", api.TokOpenCurly, []string{"a(b)c[d]e", "g"}},
		{"a(b)c[d]e{f}g", api.TokCloseParen, []string{"a(b)c[d]e{f}g"}},
		{"a)b", api.TokCloseParen, []string{"a", "b"}},
		{"a}b(})", api.TokCloseCurly, []string{"a", "b(})"}},
		{"a 1 b(c)", api.TokIdent, []string{"", " 1 b(c)"}},
	} {
		parts, e := nest.Split(valuesOf(t, c.text), c.kind)
		if e != api.OK || !slices.EqualFunc(parts, c.want, func(v []api.Value, s string) bool { return same(v, valuesOf(t, s)) }) {
			t.Errorf("Split of %q by %d: %+v, %v; want %q", c.text, c.kind, parts, e, c.want)
		}
	}
}

func TestSplitByEachKind(t *testing.T) {
	for kind := range 256 {
		k := uint8(kind)
		v := values(leaf(mark(k)), name("a"), leaf(mark(k)), parens(leaf(mark(0)), leaf(comma)))
		parts, e := nest.Split(v, k)
		switch {
		case kind < 1 || kind > 24:
			if e != api.ErrArg || parts != nil {
				t.Errorf("Split by %d: %+v, %v", kind, parts, e)
			}
		case k == api.TokIdent, k == api.TokOpenParen:
			if e != api.OK || len(parts) != 4 {
				t.Errorf("Split by %d: %+v, %v", kind, parts, e)
			}
		default:
			if e != api.OK || len(parts) != 3 || len(parts[0]) != 0 || !same(parts[1], v[1:2]) || !same(parts[2], v[3:]) {
				t.Errorf("Split by %d: %+v, %v", kind, parts, e)
			}
		}
	}
}

// The chapter's example.

func TestExample(t *testing.T) {
	v := valuesOf(t, "a(b[c)d")
	if want := values(call("a", name("b"), squares(name("c"), leaf(closeParen), name("d")))); !same(v, want) {
		t.Errorf("%+v, want %+v", v, want)
	}
	if d, e := nest.Depth(v); e != api.OK || d != 2 {
		t.Error(d, e)
	}
	if l, e := nest.Flat(v); e != api.OK || !slices.Equal(l, tokensOf(t, "a(b[c)d])")) {
		t.Error(l, e)
	}
}
