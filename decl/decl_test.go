package decl_test

import (
	"slices"
	"strings"
	"testing"

	"vitrine/api"
	"vitrine/decl"
	"vitrine/nest"
	"vitrine/token"
)

func mark(kind uint8) api.Token   { return api.Token{Kind: kind} }
func ident(s string) api.Token    { return api.Token{Kind: api.TokIdent, Text: s} }
func function(s string) api.Token { return api.Token{Kind: api.TokFunction, Text: s} }
func delim(s string) api.Token    { return api.Token{Kind: api.TokDelim, Text: s} }
func leaf(t api.Token) api.Value  { return api.Value{Token: t} }
func name(s string) api.Value     { return leaf(ident(s)) }

func block(t api.Token, v ...api.Value) api.Value { return api.Value{Token: t, List: v} }

func values(v ...api.Value) []api.Value { return v }

var (
	space     = leaf(mark(api.TokSpace))
	colon     = leaf(mark(api.TokColon))
	semicolon = leaf(mark(api.TokSemicolon))
	comma     = leaf(mark(api.TokComma))
	bang      = leaf(delim("!"))
	word      = name("important")
	parens    = mark(api.TokOpenParen)
	squares   = mark(api.TokOpenSquare)
	curlies   = mark(api.TokOpenCurly)
	closers   = values(leaf(mark(api.TokCloseSquare)), leaf(mark(api.TokCloseParen)), leaf(mark(api.TokCloseCurly)))
)

// with is a declaration that is not important.
func with(name string, v ...api.Value) api.Decl { return api.Decl{Name: name, Value: v} }

// urgent is d, but important.
func urgent(d api.Decl) api.Decl {
	d.Important = true
	return d
}

// chain is a value in as many blocks, each in the next one.
func chain(opener api.Token, count int, x ...api.Value) []api.Value {
	for range count {
		x = values(block(opener, x...))
	}
	return x
}

// same compares values, of which an empty list is like none.
func same(v, w []api.Value) bool {
	return slices.EqualFunc(v, w, func(x, y api.Value) bool { return x.Token == y.Token && same(x.List, y.List) })
}

func sameDecl(a, b api.Decl) bool {
	return a.Name == b.Name && a.Important == b.Important && same(a.Value, b.Value)
}

func sameDecls(a, b []api.Decl) bool { return slices.EqualFunc(a, b, sameDecl) }

func valuesOf(t *testing.T, s string) []api.Value {
	t.Helper()
	l, e := token.Tokens(s)
	if e != api.OK {
		t.Fatalf("Tokens(%q): %v", s, e)
	}
	v, e := nest.Parse(l)
	if e != api.OK {
		t.Fatalf("Parse of %q: %v", s, e)
	}
	return v
}

func TestExample(t *testing.T) {
	l, e := decl.Read("COLOR : red ! important; x; --Y:; margin:1px)")
	want := []api.Decl{urgent(with("color", name("red"))), with("--Y")}
	if e != api.OK || !sameDecls(l, want) {
		t.Errorf("Read = %+v, %v", l, e)
	}
	if s, e := decl.List(l); e != api.OK || s != "color: red !important; --Y: " {
		t.Errorf("List = %q, %v", s, e)
	}
}

// P5.1: Check.

func TestCheckNames(t *testing.T) {
	for s, valid := range map[string]bool{
		"":                                     false,
		"a":                                    true,
		"color":                                true,
		"Color":                                false,
		"coloR":                                false,
		"-":                                    true,
		"-a":                                   true,
		"-A":                                   false,
		"--":                                   false,
		"--a":                                  true,
		"--A":                                  true,
		"---":                                  true,
		"-- ":                                  true,
		"1 !":                                  true,
		"\n\f\r":                               true,
		"\xc3\x84\xff":                         true,
		"a\x00":                                false,
		"\x00":                                 false,
		"--\x00":                               false,
		"--a\x00b":                             false,
		strings.Repeat("a", api.MaxName):       true,
		strings.Repeat("a", api.MaxName+1):     false,
		strings.Repeat("a", 5000):              false,
		"--" + strings.Repeat("A", 62):         true,
		"--" + strings.Repeat("A", 63):         false,
		"é" + strings.Repeat("a", 62):          true,
		"é" + strings.Repeat("a", 63):          false,
		"@[`{" + strings.Repeat("z", 60):       true,
		"@[`{" + strings.Repeat("z", 59) + "Z": false,
	} {
		want := api.OK
		if !valid {
			want = api.ErrBad
		}
		for _, d := range []api.Decl{with(s, name("X")), urgent(with(s, name("X")))} {
			if e := decl.Check(d); e != want {
				t.Errorf("Check(%+v) = %v, want %v", d, e, want)
			}
		}
	}
}

// looped are values that are inside themselves.
func looped() []api.Value {
	v := values(block(parens))
	v[0].List = v
	return v
}

func TestCheckValues(t *testing.T) {
	a, stray := name("a"), closers[1]
	for what, c := range map[string]struct {
		v     []api.Value
		valid bool
	}{
		"one":                             {values(a), true},
		"more":                            {values(a, space, comma, colon, a), true},
		"two spaces":                      {values(a, space, space, a), true},
		"space in front":                  {values(space, a), false},
		"space behind":                    {values(a, space), false},
		"space alone":                     {values(space), false},
		"spaces in a block":               {values(block(parens, space, a, space)), true},
		"semicolon":                       {values(a, semicolon, a), false},
		"semicolon alone":                 {values(semicolon), false},
		"semicolon in a block":            {values(block(curlies, semicolon)), true},
		"semicolon in a function":         {values(block(function("f"), a, semicolon)), true},
		"bang":                            {values(a, bang), false},
		"bang in front":                   {values(bang, a), false},
		"mark":                            {values(a, bang, word), false},
		"bang in a block":                 {values(block(squares, bang)), true},
		"bang in a function":              {values(block(function("f"), bang)), true},
		"the word of the mark":            {values(word), true},
		"an ident of a bang":              {values(name("!")), true},
		"colon":                           {values(colon), true},
		"stray closer":                    {values(a, stray), false},
		"stray closer in front":           {values(stray, a), false},
		"stray closer in a block":         {values(block(squares, stray)), false},
		"stray closer deep in blocks":     {values(a, block(squares, block(curlies, a, stray), a)), false},
		"stray square in a function":      {values(block(function("f"), closers[0])), false},
		"stray curly in a function":       {values(block(function("f"), closers[2])), false},
		"stray square":                    {values(closers[0]), false},
		"stray curly":                     {values(closers[2]), false},
		"its own closer in a block":       {values(block(parens, stray)), false},
		"a list without a block":          {values(api.Value{Token: ident("a"), List: values(a)}), false},
		"an empty name":                   {values(name("")), false},
		"a byte 0":                        {values(name("a\x00")), false},
		"a byte 0 in a block":             {values(block(parens, name("a\x00"))), false},
		"a bad string":                    {values(leaf(mark(api.TokBadString))), false},
		"a bad url":                       {values(leaf(mark(api.TokBadURL))), false},
		"no kind":                         {values(leaf(mark(0))), false},
		"a kind that is none":             {values(leaf(mark(25))), false},
		"a token of a wrong shape":        {values(leaf(api.Token{Kind: api.TokIdent, Text: "a", Num: 1})), false},
		"a bang of a wrong shape":         {values(leaf(api.Token{Kind: api.TokDelim, Text: "!", Num: 1})), false},
		"a backslash":                     {values(leaf(delim(`\`))), false},
		"a backslash and a space":         {values(leaf(delim(`\`)), space), false},
		"a backslash, a space and more":   {values(leaf(delim(`\`)), space, a), true},
		"a backslash with its space else": {values(block(parens, leaf(delim(`\`)), space)), true},
		"url without a string":            {values(block(function("URL"), a)), false},
		"url with a string":               {values(block(function("URL"), leaf(api.Token{Kind: api.TokString}))), true},
		"as deep as may be":               {chain(parens, api.MaxDepth, a), true},
		"too deep":                        {chain(parens, api.MaxDepth+1, a), false},
		"as many as may be":               {slices.Repeat(values(comma), api.MaxTokens), true},
		"too many":                        {slices.Repeat(values(comma), api.MaxTokens+1), false},
		"as many blocks as may be":        {slices.Repeat(values(block(parens)), api.MaxTokens/2), true},
		"too many with a closer":          {append(slices.Repeat(values(comma), api.MaxTokens-1), block(parens)), false},
		"inside itself":                   {looped(), false},
		"cdo and cdc":                     {values(leaf(mark(api.TokCDO)), leaf(mark(api.TokCDC))), true},
	} {
		want := api.OK
		if !c.valid {
			want = api.ErrBad
		}
		for _, d := range []api.Decl{with("a", c.v...), with("--A", c.v...), urgent(with("a", c.v...))} {
			if e := decl.Check(d); e != want {
				t.Errorf("%s: Check says %v, want %v", what, e, want)
			}
		}
	}
}

func TestCheckEmptyValues(t *testing.T) {
	for s, want := range map[string]api.Errno{"a": api.ErrBad, "-": api.ErrBad, "-a": api.ErrBad, "--": api.ErrBad, "": api.ErrBad, "--a": api.OK, "---": api.OK} {
		for _, d := range []api.Decl{with(s), {Name: s, Value: values()}, urgent(with(s))} {
			if e := decl.Check(d); e != want {
				t.Errorf("Check(%+v) = %v, want %v", d, e, want)
			}
		}
	}
}

// P5.1: One.

func TestOneText(t *testing.T) {
	x, y := name("x"), name("y")
	for s, want := range map[string]api.Decl{
		"a:x":                                 with("a", x),
		" a : x ":                             with("a", x),
		"/**/a/**/:/**/x/**/":                 with("a", x),
		" /**/ a /**/ : /**/ x /**/ ":         with("a", x),
		"A-B:X":                               with("a-b", name("X")),
		"--A-B:x":                             with("--A-B", x),
		"-A:x":                                with("-a", x),
		`\--A:x`:                              with("--A", x),
		`\41\20:x`:                            with("a ", x),
		"Ä:x":                                 with("Ä", x),
		"a:x y":                               with("a", x, space, y),
		"a:x/**/y":                            with("a", x, y),
		"a:x /**/ y":                          with("a", x, space, space, y),
		"a::x":                                with("a", colon, x),
		"a: :":                                with("a", colon),
		"a:b:c":                               with("a", name("b"), colon, name("c")),
		"a:(":                                 with("a", block(parens)),
		"a:{b:c;d:e!f}":                       with("a", block(curlies, name("b"), colon, name("c"), semicolon, name("d"), colon, name("e"), bang, name("f"))),
		"a:important":                         with("a", word),
		"a:x important":                       with("a", x, space, word),
		"important:important":                 with("important", word),
		"--a:":                                with("--a"),
		"--a: ":                               with("--a"),
		"--a":                                 {},
		"--:x":                                {},
		"--:":                                 {},
		"---:":                                with("---"),
		"a:":                                  {},
		"a: ":                                 {},
		"a":                                   {},
		"":                                    {},
		" ":                                   {},
		":x":                                  {},
		"a x":                                 {},
		"a x:y":                               {},
		"a;x":                                 {},
		"a;:x":                                {},
		"a:x;":                                {},
		";a:x":                                {},
		"a:x;b:y":                             {},
		"f():x":                               {},
		"1:x":                                 {},
		"@a:x":                                {},
		"#a:x":                                {},
		"'a':x":                               {},
		"(a):x":                               {},
		"*a:x":                                {},
		"a(:x":                                {},
		"a:x)":                                {},
		"a:]x":                                {},
		"a:}":                                 {},
		"a:f(])":                              {},
		"a:[x)":                               {},
		"a:'x\n":                              {},
		"a:url(x y)":                          {},
		"a:x!":                                {},
		"a:!x":                                {},
		"a:x!y":                               {},
		"--a:!":                               {},
		"a:x\\\n":                             {},
		"a:x\\\ny":                            with("a", x, leaf(delim(`\`)), space, y),
		"--a:\\\n":                            {},
		"--a:;":                               {},
		strings.Repeat("A", 64) + ":x":        with(strings.Repeat("a", 64), x),
		strings.Repeat("A", 65) + ":x":        {},
		"--" + strings.Repeat("A", 62) + ":x": with("--"+strings.Repeat("A", 62), x),
		"--" + strings.Repeat("A", 63) + ":x": {},
	} {
		checkOne(t, s, want)
	}
}

func TestOneMark(t *testing.T) {
	x := name("x")
	for s, want := range map[string]api.Decl{
		"a:x!important":             urgent(with("a", x)),
		"a: x ! important ":         urgent(with("a", x)),
		"a:x !IMPORTANT":            urgent(with("a", x)),
		"a:x!/**/iMportant/**/":     urgent(with("a", x)),
		"a:x /**/ ! /**/ important": urgent(with("a", x)),
		`a:x!\49mportant`:           urgent(with("a", x)),
		"a:x y ! important":         urgent(with("a", x, space, name("y"))),
		"a:x important!important":   urgent(with("a", x, space, word)),
		"--a:!important":            urgent(with("--a")),
		"--a: ! important ":         urgent(with("--a")),
		"--a:x!important":           urgent(with("--a", x)),
		"a:{!}!important":           urgent(with("a", block(curlies, bang))),
		"a:{x!important}":           with("a", block(curlies, x, bang, word)),
		"--A:(!important)":          with("--A", block(parens, bang, word)),
		"a:!important":              {},
		"a!important:x":             {},
		"a:x!important!important":   {},
		"a:x!!important":            {},
		"a:x!important y":           {},
		"a:x!important,":            {},
		"a:x!important;":            {},
		"a:x!important()":           {},
		"a:x!importan":              {},
		"a:x!importants":            {},
		"a:x!'important'":           {},
		"a:x!#important":            {},
		"a:x!,important":            {},
		"a:x\\\n!important":         {},
		"--a:!important!important":  {},
		"--a:! !important":          {},
		"a!important":               {},
		"!important":                {},
		"important":                 {},
	} {
		checkOne(t, s, want)
	}
}

// checkOne checks One, with a text's values, and that Of agrees; no declaration at all is one without a name.
func checkOne(t *testing.T, s string, want api.Decl) {
	t.Helper()
	v := valuesOf(t, s)
	got, ok, e := decl.One(v)
	if e != api.OK || ok != (want.Name != "") || !sameDecl(got, want) {
		t.Errorf("One of %q: %+v, %v, %v; want %+v", s, got, ok, e, want)
	}
	if slices.ContainsFunc(v, func(x api.Value) bool { return x.Token == semicolon.Token }) {
		return
	}
	l, e := decl.Of(v)
	if e != api.OK || (len(l) == 1) != ok || len(l) > 0 && !sameDecl(l[0], want) {
		t.Errorf("Of %q: %+v, %v; want %+v", s, l, e, want)
	}
}

// The tokens need not be of a text.
func TestOneOfOddTokens(t *testing.T) {
	x := name("x")
	odd := func(t api.Token) api.Value {
		t.Num, t.Unit, t.Flag = 5, "u", true
		return leaf(t)
	}
	for what, c := range map[string]struct {
		v    []api.Value
		want api.Decl
	}{
		"odd name, colon and mark": {values(odd(ident("A")), odd(colon.Token), x, odd(bang.Token), odd(word.Token)), urgent(with("a", x))},
		"odd spaces":               {values(odd(space.Token), name("a"), odd(space.Token), colon, odd(space.Token), x, odd(space.Token)), with("a", x)},
		"an odd value":             {values(name("a"), colon, odd(ident("x"))), api.Decl{}},
		"an odd space in between":  {values(name("a"), colon, x, odd(space.Token), x), api.Decl{}},
		"many spaces":              {values(space, space, name("a"), space, space, colon, space, space, x, space, space, bang, space, space, word, space, space), urgent(with("a", x))},
		"a name with a byte 0":     {values(name("a\x00"), colon, x), api.Decl{}},
		"an empty name":            {values(name(""), colon, x), api.Decl{}},
		"a bang that is an ident":  {values(name("a"), colon, x, name("!"), word), with("a", x, name("!"), word)},
		"a longer bang":            {values(name("a"), colon, x, leaf(delim("!!")), word), api.Decl{}},
	} {
		got, ok, e := decl.One(c.v)
		if e != api.OK || ok != (c.want.Name != "") || !sameDecl(got, c.want) {
			t.Errorf("%s: One = %+v, %v, %v; want %+v", what, got, ok, e, c.want)
		}
	}
}

// P5.1 and P5.2: the errors of values.

func TestErrorsOfValues(t *testing.T) {
	x := name("x")
	for what, c := range map[string]struct {
		v    []api.Value
		want api.Errno
	}{
		"too deep":                  {chain(parens, api.MaxDepth+1, x), api.ErrDeep},
		"too many":                  {slices.Repeat(values(comma), api.MaxTokens+1), api.ErrMany},
		"too many with closers":     {append(slices.Repeat(values(comma), api.MaxTokens-1), block(parens)), api.ErrMany},
		"a list without a block":    {values(api.Value{Token: ident("a"), List: values(x)}), api.ErrBad},
		"its own closer in a block": {values(block(parens, closers[1])), api.ErrBad},
		"inside itself":             {looped(), api.ErrDeep},
		"too deep and too many":     {append(chain(parens, api.MaxDepth+1, x), slices.Repeat(values(comma), api.MaxTokens)...), api.ErrDeep},
		"too many and bad":          {append(slices.Repeat(values(comma), api.MaxTokens), block(parens, closers[1])), api.ErrMany},
	} {
		for _, v := range [][]api.Value{c.v, append(values(name("a"), colon, x, semicolon, name("b"), colon), c.v...)} {
			if e := nest.Check(v); e != c.want {
				t.Fatalf("%s: nest.Check says %v", what, e)
			}
			if d, ok, e := decl.One(v); e != c.want || ok || !sameDecl(d, api.Decl{}) {
				t.Errorf("%s: One = %+v, %v, %v", what, d, ok, e)
			}
			if l, e := decl.Of(v); e != c.want || len(l) > 0 {
				t.Errorf("%s: Of = %+v, %v", what, l, e)
			}
		}
	}
}

// P5.2: Of and Read.

func TestReadText(t *testing.T) {
	x, y := name("x"), name("y")
	a, b := with("a", x), with("b", y)
	for s, want := range map[string][]api.Decl{
		"":                           nil,
		";":                          nil,
		" ; ; ":                      nil,
		"a:x":                        {a},
		"a:x;":                       {a},
		";a:x":                       {a},
		"a:x;b:y":                    {a, b},
		"b:y ; ; a : x ;":            {b, a},
		"a:x;a:x":                    {a, a},
		"a:x;b:y;a:x":                {a, b, a},
		"?;a:x":                      {a},
		"a;b:y":                      {b},
		"a:;b:y":                     {b},
		"--a:;b:y":                   {with("--a"), b},
		"a:x!;b:y":                   {b},
		"a:x);b:y":                   {b},
		"a:x];b:y}":                  nil,
		"a:'x\n;b:y":                 {b},
		"a:x!important;b:y":          {urgent(a), b},
		"a:x;!important;b:y":         {a, b},
		"a:(x;b:y":                   {with("a", block(parens, x, semicolon, name("b"), colon, y))},
		"a:x;(b:y;a:x)":              {a},
		"a:x;{b:y};a:x":              {a, a},
		"{};a:x":                     {a},
		"{}a:x":                      nil,
		"a:'x;b:y":                   {with("a", leaf(api.Token{Kind: api.TokString, Text: "x;b:y"}))},
		"a:x/*;b:y":                  {a},
		"a:x\\;b:y":                  {with("a", name("x;b"), colon, y)},
		"a\r\n:\fx\r;\nb:y":          {a, b},
		"a:\x00":                     {with("a", name("\uFFFD"))},
		strings.Repeat("a:x;", 32):   slices.Repeat([]api.Decl{a}, 32),
		strings.Repeat("a:x;", 33):   slices.Repeat([]api.Decl{a}, 32),
		strings.Repeat("a;a:x;", 33): slices.Repeat([]api.Decl{a}, 32),
		strings.Repeat("a:x;", 31) + strings.Repeat("a;", 9) + "b:y;a:x": append(slices.Repeat([]api.Decl{a}, 31), b),
	} {
		got, e := decl.Read(s)
		if e != api.OK || !sameDecls(got, want) {
			t.Errorf("Read(%q) = %+v, %v; want %+v", s, got, e, want)
		}
		if got, e := decl.Of(valuesOf(t, s)); e != api.OK || !sameDecls(got, want) {
			t.Errorf("Of the values of %q: %+v, %v; want %+v", s, got, e, want)
		}
	}
}

func TestReadErrors(t *testing.T) {
	for what, c := range map[string]struct {
		s    string
		want api.Errno
	}{
		"as long as may be":             {"a:" + strings.Repeat("x", 3998), api.OK},
		"too long":                      {"a:" + strings.Repeat("x", 3999), api.ErrLong},
		"as many tokens as may be":      {"a:" + strings.Repeat(",", 1498), api.OK},
		"too many tokens":               {"a:" + strings.Repeat(",", 1499), api.ErrMany},
		"too long and too many":         {"a:" + strings.Repeat(",", 3999), api.ErrLong},
		"as deep as may be":             {"a:" + strings.Repeat("(", 16), api.OK},
		"too deep":                      {"a:" + strings.Repeat("(", 17), api.ErrDeep},
		"too deep behind a semicolon":   {"a:x;(" + strings.Repeat("[", 16), api.ErrDeep},
		"as many closers as may be":     {"a:" + strings.Repeat(",", 1496) + "(", api.OK},
		"too many closers":              {"a:" + strings.Repeat(",", 1497) + "(", api.ErrMany},
		"too many and too deep":         {"a:" + strings.Repeat("(", 1499), api.ErrMany},
		"too deep and too many closers": {"a:" + strings.Repeat(",", 1480) + strings.Repeat("(", 17), api.ErrDeep},
	} {
		l, e := decl.Read(c.s)
		if e != c.want || (len(l) == 1) != (e == api.OK) {
			t.Errorf("%s: Read = %.100v, %v; want %v", what, l, e, c.want)
		}
	}
}

// P5.3: Text and List.

func TestText(t *testing.T) {
	x, y := name("x"), name("y")
	for want, d := range map[string]api.Decl{
		"a: x":                      with("a", x),
		"a: x !important":           urgent(with("a", x)),
		"a: x/**/y":                 with("a", x, y),
		"a: x y":                    with("a", x, space, y),
		"a: x /**/ y":               with("a", x, space, space, y),
		"a: f(x;!)":                 with("a", block(function("f"), x, semicolon, bang)),
		"a: {}[]()":                 with("a", block(curlies), block(squares), block(parens)),
		`a: x\20 `:                  with("a", name("x ")),
		`a: x\20  !important`:       urgent(with("a", name("x "))),
		`\31 \20 \!: x`:             with("1 !", x),
		`\-: x`:                     with("-", x),
		`a\a : x`:                   with("a\n", x),
		"--A: x":                    with("--A", x),
		"--A: ":                     with("--A"),
		"--A:  !important":          urgent(with("--A")),
		"---: x":                    with("---", x),
		"a: :":                      with("a", colon),
		"a: \\\nx":                  with("a", leaf(delim(`\`)), space, x),
		"a: important":              with("a", word),
		"a: x important !important": urgent(with("a", x, space, word)),
		"important: x":              with("important", x),
		"url: x":                    with("url", x),
		"a: --> !important":         urgent(with("a", leaf(mark(api.TokCDC)))),
		"ä: -2.5px":                 with("ä", leaf(api.Token{Kind: api.TokDimension, Num: -2500, Unit: "px"})),
	} {
		if s, e := decl.Text(d); e != api.OK || s != want {
			t.Errorf("Text(%+v) = %q, %v; want %q", d, s, e, want)
		}
		if s, e := decl.List([]api.Decl{d}); e != api.OK || s != want {
			t.Errorf("List of %+v = %q, %v; want %q", d, s, e, want)
		}
		if l, e := decl.Read(want); e != api.OK || len(l) != 1 || !sameDecl(l[0], d) {
			t.Errorf("Read(%q) = %+v, %v; want %+v", want, l, e, d)
		}
	}
}

func TestList(t *testing.T) {
	a, b := with("a", name("x")), with("b", name("y"))
	for want, l := range map[string][]api.Decl{
		"":                                    nil,
		"a: x":                                {a},
		"a: x; b: y":                          {a, b},
		"b: y; a: x !important":               {b, urgent(a)},
		"b: y !important; a: x; a: x":         {urgent(b), a, a},
		"--x: ; --y: ":                        {with("--x"), with("--y")},
		"--x:  !important; a: x":              {urgent(with("--x")), a},
		`a: x\20 ; b: y`:                      {with("a", name("x ")), b},
		strings.Repeat("a: x; ", 31) + "b: y": append(slices.Repeat([]api.Decl{a}, 31), b),
	} {
		if s, e := decl.List(l); e != api.OK || s != want {
			t.Errorf("List(%+v) = %q, %v; want %q", l, s, e, want)
		}
		if got, e := decl.Read(want); e != api.OK || !sameDecls(got, l) {
			t.Errorf("Read(%q) = %+v, %v; want %+v", want, got, e, l)
		}
	}
}

// long returns a declaration whose text has n bytes.
func long(n int) api.Decl { return with("a", name(strings.Repeat("x", n-len("a: ")))) }

func TestListErrors(t *testing.T) {
	a, bad := with("a", name("x")), with("a")
	for what, c := range map[string]struct {
		l    []api.Decl
		want api.Errno
	}{
		"as many as may be":                 {slices.Repeat([]api.Decl{a}, 32), api.OK},
		"too many":                          {slices.Repeat([]api.Decl{a}, 33), api.ErrMany},
		"too many bad ones":                 {slices.Repeat([]api.Decl{bad}, 33), api.ErrMany},
		"too many long ones":                {slices.Repeat([]api.Decl{long(4001)}, 33), api.ErrMany},
		"as many as may be, the last bad":   {append(slices.Repeat([]api.Decl{a}, 31), bad), api.ErrBad},
		"a bad one":                         {[]api.Decl{bad}, api.ErrBad},
		"a bad one in front":                {[]api.Decl{bad, a}, api.ErrBad},
		"a bad one behind":                  {[]api.Decl{a, bad}, api.ErrBad},
		"a bad name":                        {[]api.Decl{a, with("A", name("x"))}, api.ErrBad},
		"a bad one behind a long one":       {[]api.Decl{long(4001), bad}, api.ErrBad},
		"a value that is too deep":          {[]api.Decl{with("a", chain(parens, 17)...)}, api.ErrBad},
		"as long as may be":                 {[]api.Decl{long(4000)}, api.OK},
		"too long":                          {[]api.Decl{long(4001)}, api.ErrLong},
		"a value as long as may be":         {[]api.Decl{long(4003)}, api.ErrLong},
		"a value that is too long":          {[]api.Decl{long(4004)}, api.ErrLong},
		"an escape that makes it too long":  {[]api.Decl{with("a", name(strings.Repeat("!", 1999)))}, api.ErrLong},
		"an escape that just goes in":       {[]api.Decl{with("a", name(strings.Repeat("!", 1998)))}, api.OK},
		"as long as may be with its mark":   {[]api.Decl{urgent(long(3989))}, api.OK},
		"too long with its mark":            {[]api.Decl{urgent(long(3990))}, api.ErrLong},
		"two as long as may be":             {[]api.Decl{long(2000), long(1998)}, api.OK},
		"two too long":                      {[]api.Decl{long(2000), long(1999)}, api.ErrLong},
		"a semicolon too long":              {[]api.Decl{long(3990), long(10)}, api.ErrLong},
		"the first of two too long":         {[]api.Decl{long(4001), a}, api.ErrLong},
		"the last of two too long by a bit": {[]api.Decl{long(3995), a}, api.ErrLong},
		"the last of two just goes in":      {[]api.Decl{long(3994), a}, api.OK},
	} {
		s, e := decl.List(c.l)
		if e != c.want || (s != "") != (e == api.OK) {
			t.Errorf("%s: List = %.100q, %v; want %v", what, s, e, c.want)
		}
		if len(c.l) != 1 {
			continue
		}
		if s, e := decl.Text(c.l[0]); e != c.want || (s != "") != (e == api.OK) {
			t.Errorf("%s: Text = %.100q, %v; want %v", what, s, e, c.want)
		}
	}
}

func TestTextOfNoDeclaration(t *testing.T) {
	for _, d := range []api.Decl{{}, with("a"), with("A", name("x")), with("--"), with("a", bang), with("a", space), with("a", looped()...), {Name: "a", Important: true}} {
		if s, e := decl.Text(d); e != api.ErrBad || s != "" {
			t.Errorf("Text(%.100v) = %q, %v", d, s, e)
		}
	}
}
