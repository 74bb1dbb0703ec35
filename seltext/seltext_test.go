package seltext_test

import (
	"math"
	"slices"
	"strings"
	"testing"

	"vitrine/api"
	"vitrine/nest"
	"vitrine/seltext"
	"vitrine/token"
)

func mark(kind uint8) api.Token   { return api.Token{Kind: kind} }
func ident(s string) api.Token    { return api.Token{Kind: api.TokIdent, Text: s} }
func function(s string) api.Token { return api.Token{Kind: api.TokFunction, Text: s} }
func delim(s string) api.Token    { return api.Token{Kind: api.TokDelim, Text: s} }
func hash(s string) api.Token     { return api.Token{Kind: api.TokHash, Text: s, Flag: true} }
func str(s string) api.Token      { return api.Token{Kind: api.TokString, Text: s} }

func block(t api.Token, v ...api.Value) api.Value { return api.Value{Token: t, List: v} }

// leaves are the values of tokens that are no openers.
func leaves(l ...api.Token) []api.Value {
	var v []api.Value
	for _, t := range l {
		v = append(v, api.Value{Token: t})
	}
	return v
}

var (
	space   = mark(api.TokSpace)
	colon   = mark(api.TokColon)
	comma   = mark(api.TokComma)
	squares = mark(api.TokOpenSquare)
	parens  = mark(api.TokOpenParen)
	dot     = delim(".")
)

func id(s string) api.Simple    { return api.Simple{Kind: api.SimId, Name: s} }
func class(s string) api.Simple { return api.Simple{Kind: api.SimClass, Name: s} }
func alone(k uint8) api.Simple  { return api.Simple{Kind: k} }

func attr(name string, op uint8, value string) api.Simple {
	return api.Simple{Kind: api.SimAttr, Name: name, Op: op, Value: value}
}

func folded(s api.Simple) api.Simple {
	s.Fold = true
	return s
}

// of is a pseudo-class with a list.
func of(kind uint8, l ...api.Complex) api.Simple { return api.Simple{Kind: kind, List: l} }

func nth(kind uint8, a, b int64, l ...api.Complex) api.Simple {
	return api.Simple{Kind: kind, Anb: api.Anb{A: a, B: b}, Of: len(l) > 0, List: l}
}

func compound(tag string, s ...api.Simple) api.Compound { return api.Compound{Tag: tag, Simples: s} }

// one is a complex selector of one compound.
func one(tag string, s ...api.Simple) api.Complex {
	return api.Complex{Parts: []api.Compound{compound(tag, s...)}}
}

// then is a complex selector with one compound more.
func then(c api.Complex, comb uint8, tag string, s ...api.Simple) api.Complex {
	return api.Complex{Lead: c.Lead, Parts: append(slices.Clip(c.Parts), compound(tag, s...)), Combs: append(slices.Clip(c.Combs), comb)}
}

func led(lead uint8, c api.Complex) api.Complex {
	c.Lead = lead
	return c
}

func list(l ...api.Complex) []api.Complex { return l }

// inner is a selector in as many lists, each in the next one.
func inner(kind uint8, count int, c api.Complex) api.Complex {
	for range count {
		c = one("", of(kind, c))
	}
	return c
}

// same compares lists, of which an empty one is like none.
func same(a, b []api.Complex) bool {
	return slices.EqualFunc(a, b, func(c, d api.Complex) bool {
		return c.Lead == d.Lead && slices.Equal(c.Combs, d.Combs) && slices.EqualFunc(c.Parts, d.Parts, sameCompound)
	})
}

func sameCompound(p, q api.Compound) bool {
	return p.Tag == q.Tag && slices.EqualFunc(p.Simples, q.Simples, func(s, t api.Simple) bool {
		return s.Kind == t.Kind && s.Name == t.Name && s.Op == t.Op && s.Value == t.Value && s.Fold == t.Fold && s.Anb == t.Anb && s.Of == t.Of && same(s.List, t.List)
	})
}

func checkRead(t *testing.T, s string, want []api.Complex) {
	t.Helper()
	wantE := api.OK
	if len(want) == 0 {
		wantE = api.ErrForm
	}
	if l, e := seltext.Read(s); e != wantE || !same(l, want) {
		t.Errorf("Read(%.200q) = %+v, %d; want %+v, %d", s, l, int(e), want, int(wantE))
	}
	v, e := valuesOf(s)
	if e != api.OK {
		t.Fatalf("values of %.200q: %v", s, e)
	}
	if l, e := seltext.Of(v); e != wantE || !same(l, want) {
		t.Errorf("Of the values of %.200q = %+v, %d; want %+v, %d", s, l, int(e), want, int(wantE))
	}
}

func valuesOf(s string) ([]api.Value, api.Errno) {
	l, e := token.Tokens(s)
	if e != api.OK {
		return nil, e
	}
	return nest.Parse(l)
}

func TestExamples(t *testing.T) {
	for s, want := range map[string]string{
		"A.x>b , :IS(p,,q r)":            "a.x > b, :is(p, q r)",
		"[Href^=x i]":                    `[href^="x" i]`,
		":NTH-CHILD(1)":                  ":first-child",
		"a:has(b:has(c))":                "",
		"a:is(b:has(c), d:has(:has(e)))": "a:is(b:has(c))",
		"a:is(b, 5)":                     "a:is(b)",
	} {
		checkText(t, s, want)
	}
	checkRead(t, "A.x>b , :IS(p,,q r)", list(
		then(one("a", class("x")), api.CombChild, "b"),
		one("", of(api.SimIs, one("p"), then(one("q"), api.CombDescendant, "r"))),
	))
}

// checkText checks what a text is written as once it is read, or that it is no list if this is empty.
func checkText(t *testing.T, s, want string) {
	t.Helper()
	l, e := seltext.Read(s)
	if want == "" {
		if e != api.ErrForm || len(l) > 0 {
			t.Errorf("Read(%.200q) = %+v, %d; want ErrForm", s, l, int(e))
		}
		return
	}
	if e != api.OK {
		t.Errorf("Read(%.200q) = %d; want %.200q", s, int(e), want)
		return
	}
	if e := seltext.Check(l); e != api.OK {
		t.Errorf("Read(%.200q) is not valid: %d", s, int(e))
	}
	if text, e := seltext.Text(l); text != want || e != api.OK {
		t.Errorf("Text of %.200q = %.200q, %d; want %.200q", s, text, int(e), want)
	}
	if again, e := seltext.Read(want); e != api.OK || !same(again, l) {
		t.Errorf("Read(%.200q) = %+v, %d; want %+v", want, again, int(e), l)
	}
}

// P8.2: what is a compound.

func TestReadCompounds(t *testing.T) {
	long, longer := strings.Repeat("n", 64), strings.Repeat("n", 65)
	for s, want := range map[string]api.Complex{
		"a":                            one("a"),
		" A ":                          one("a"),
		"Ä":                            one("Ä"),
		`\31 A`:                        one("1a"),
		"*":                            one("*"),
		`\*`:                           one("*"),
		"#a":                           one("", id("a")),
		"#A":                           one("", id("A")),
		".A":                           one("", class("A")),
		"a#b":                          one("a", id("b")),
		"a.b":                          one("a", class("b")),
		"*.b":                          one("*", class("b")),
		"a#b.c#d.e":                    one("a", id("b"), class("c"), id("d"), class("e")),
		"a/**/.b/**/#c":                one("a", class("b"), id("c")),
		"a./**/b":                      one("a", class("b")),
		"#a#a":                         one("", id("a"), id("a")),
		".a:link[b]":                   one("", class("a"), alone(api.SimLink), attr("b", api.AttrHas, "")),
		":link":                        one("", alone(api.SimLink)),
		"a:Visited":                    one("a", alone(api.SimVisited)),
		":any-LINK":                    one("", alone(api.SimAnyLink)),
		":root":                        one("", alone(api.SimRoot)),
		":EMPTY":                       one("", alone(api.SimEmpty)),
		":/**/root":                    one("", alone(api.SimRoot)),
		`:r\6fot`:                      one("", alone(api.SimRoot)),
		":first-child":                 one("", nth(api.SimNth, 0, 1)),
		":Last-Child":                  one("", nth(api.SimNthLast, 0, 1)),
		":root:root:empty":             one("", alone(api.SimRoot), alone(api.SimRoot), alone(api.SimEmpty)),
		"#" + long:                     one("", id(long)),
		"." + long:                     one("", class(long)),
		long:                           one(long),
		"[" + long + "]":               one("", attr(long, api.AttrHas, "")),
		".\xff":                        one("", class("\xff")),
		".\x00":                        one("", class("\uFFFD")),
		"a/*":                          one("a"),
		"":                             {},
		" ":                            {},
		"5":                            {},
		"a b5 5":                       {},
		"'a'":                          {},
		"#1":                           {},
		"#-":                           {},
		"#":                            {},
		"# a":                          {},
		".":                            {},
		". a":                          {},
		".5":                           {},
		"..a":                          {},
		".*":                           {},
		".#a":                          {},
		".a(":                          {},
		"a/**/b":                       {},
		"a*":                           {},
		"*a":                           {},
		"**":                           {},
		".a*":                          {},
		"#a/**/b":                      {},
		"*|*":                          {},
		"a|b":                          {},
		"|a":                           {},
		"a!":                           {},
		"a;":                           {},
		"@a":                           {},
		"a{}":                          {},
		"(a)":                          {},
		"a()":                          {},
		"url(a)":                       {},
		"&":                            {},
		"a]":                           {},
		"a)":                           {},
		":":                            {},
		"a:":                           {},
		": root":                       {},
		"::root":                       {},
		"p::before":                    {},
		":roots":                       {},
		":hover":                       {},
		":root()":                      {},
		":first-child()":               {},
		":link(a)":                     {},
		":'root'":                      {},
		":#root":                       {},
		":is":                          {},
		":not":                         {},
		":nth-child":                   {},
		":(a)":                         {},
		":nth-of-type(1)":              {},
		":first-of-type":               {},
		":matches(a)":                  {},
		"is(a)":                        {},
		"--> a":                        {},
		"#" + longer:                   {},
		"." + longer:                   {},
		longer:                         {},
		"[" + longer + "]":             {},
		strings.Repeat(".a", 65):       {},
		"a" + strings.Repeat("#b", 65): {},
		strings.Repeat("é", 33):        {},
	} {
		if len(want.Parts) == 0 {
			checkRead(t, s, nil)
		} else {
			checkRead(t, s, list(want))
		}
	}
	checkRead(t, "a"+strings.Repeat("#b", 64), list(one("a", slices.Repeat([]api.Simple{id("b")}, 64)...)))
}

func TestReadAttributes(t *testing.T) {
	for s, want := range map[string]api.Simple{
		"[a]":                                    attr("a", api.AttrHas, ""),
		"[ A ]":                                  attr("a", api.AttrHas, ""),
		"[a":                                     attr("a", api.AttrHas, ""),
		"[/**/a/**/]":                            attr("a", api.AttrHas, ""),
		"[a=b]":                                  attr("a", api.AttrIs, "b"),
		"[A=B]":                                  attr("a", api.AttrIs, "B"),
		"[a='B c']":                              attr("a", api.AttrIs, "B c"),
		"[a='']":                                 attr("a", api.AttrIs, ""),
		"[a~=b]":                                 attr("a", api.AttrWord, "b"),
		"[a|=b]":                                 attr("a", api.AttrDash, "b"),
		"[a^=b]":                                 attr("a", api.AttrBegins, "b"),
		"[a$=b]":                                 attr("a", api.AttrEnds, "b"),
		"[a*=b]":                                 attr("a", api.AttrInside, "b"),
		"[ a = b ]":                              attr("a", api.AttrIs, "b"),
		"[ a ~= 'b' ]":                           attr("a", api.AttrWord, "b"),
		"[a ^= /**/ b  ]":                        attr("a", api.AttrBegins, "b"),
		"[a*/**/=b]":                             attr("a", api.AttrInside, "b"),
		"[a=b i]":                                folded(attr("a", api.AttrIs, "b")),
		"[a=b/**/i]":                             folded(attr("a", api.AttrIs, "b")),
		"[a='b'i]":                               folded(attr("a", api.AttrIs, "b")),
		"[ a $= 'b' \n I ]":                      folded(attr("a", api.AttrEnds, "b")),
		`[a=b \69 ]`:                             folded(attr("a", api.AttrIs, "b")),
		"[a='' i]":                               folded(attr("a", api.AttrIs, "")),
		"[a=i]":                                  attr("a", api.AttrIs, "i"),
		"[a=i i]":                                folded(attr("a", api.AttrIs, "i")),
		"[i=s s]":                                attr("i", api.AttrIs, "s"),
		"[a=b S]":                                attr("a", api.AttrIs, "b"),
		"[a|='b's]":                              attr("a", api.AttrDash, "b"),
		"[a='b":                                  attr("a", api.AttrIs, "b"),
		`[a="\"]"]`:                              attr("a", api.AttrIs, `"]`),
		`[\=\]=\=]`:                              attr("=]", api.AttrIs, "="),
		"[a='" + strings.Repeat("v", 400) + "']": attr("a", api.AttrIs, strings.Repeat("v", 400)),
		"[a='" + strings.Repeat("v", 401) + "']": {},
		"[]":                                     {},
		"[ ]":                                    {},
		"[a b]":                                  {},
		"[a,b]":                                  {},
		"[a][":                                   {},
		"['a']":                                  {},
		"[*]":                                    {},
		"[#a]":                                   {},
		"[5=a]":                                  {},
		"[=]":                                    {},
		"[=a]":                                   {},
		"[a=]":                                   {},
		"[a~=]":                                  {},
		"[a~=":                                   {},
		"[a~":                                    {},
		"[a~]":                                   {},
		"[a~b]":                                  {},
		"[a~ =b]":                                {},
		"[a==b]":                                 {},
		"[a=~b]":                                 {},
		"[a~|=b]":                                {},
		"[a~~=b]":                                {},
		"[a!=b]":                                 {},
		"[a>=b]":                                 {},
		"[a:b]":                                  {},
		"[a=5]":                                  {},
		"[a=#b]":                                 {},
		"[a=b()]":                                {},
		"[a=[b]]":                                {},
		"[a=(b)]":                                {},
		"[a=url(b)]":                             {},
		"[a='b\n]":                               {},
		"[a=b c]":                                {},
		"[a=b i i]":                              {},
		"[a=b is]":                               {},
		"[a=b 'i']":                              {},
		"[a=b i()]":                              {},
		"[a=b i,]":                               {},
		"[a=b,i]":                                {},
		"[a i]":                                  {},
		"[a s]":                                  {},
		"[a=i=b]":                                {},
		"[|a]":                                   {},
		"[b|a]":                                  {},
		"[b|a=c]":                                {},
		"{a}":                                    {},
		"(a=b)":                                  {},
	} {
		if want.Kind == 0 {
			checkRead(t, s, nil)
			checkRead(t, "a"+s, nil)
			continue
		}
		checkRead(t, s, list(one("", want)))
		checkRead(t, ".x"+s, list(one("", class("x"), want)))
	}
}

func TestReadPlaces(t *testing.T) {
	a, b := one("a"), one("b")
	for s, want := range map[string]api.Simple{
		":nth-child(1)":                   nth(api.SimNth, 0, 1),
		":nth-last-child(1)":              nth(api.SimNthLast, 0, 1),
		":nth-child(+1)":                  nth(api.SimNth, 0, 1),
		":Nth-Child( ODD )":               nth(api.SimNth, 2, 1),
		":nth-last-child(even)":           nth(api.SimNthLast, 2, 0),
		":nth-child(-2N + 3":              nth(api.SimNth, -2, 3),
		":nth-child(/**/n)":               nth(api.SimNth, 1, 0),
		":nth-child(0)":                   nth(api.SimNth, 0, 0),
		":nth-child(-n-1000000000)":       nth(api.SimNth, -1, -1000000000),
		":nth-child(2n of a)":             nth(api.SimNth, 2, 0, a),
		":nth-last-child(1 OF a,b)":       nth(api.SimNthLast, 0, 1, a, b),
		":nth-child( 1 of a , b )":        nth(api.SimNth, 0, 1, a, b),
		":nth-child(n/**/of/**/a)":        nth(api.SimNth, 1, 0, a),
		":nth-child(2n + 1 of.c)":         nth(api.SimNth, 2, 1, one("", class("c"))),
		":nth-child(odd of of)":           nth(api.SimNth, 2, 1, one("of")),
		":nth-child(1 of a of b)":         nth(api.SimNth, 0, 1, then(then(a, api.CombDescendant, "of"), api.CombDescendant, "b")),
		":nth-child(1 of [of])":           nth(api.SimNth, 0, 1, one("", attr("of", api.AttrHas, ""))),
		`:nth-child(1 \6f f a)`:           nth(api.SimNth, 0, 1, a),
		":nth-child(1 of a > b)":          nth(api.SimNth, 0, 1, then(a, api.CombChild, "b")),
		":nth-child(1 of :is())":          nth(api.SimNth, 0, 1, one("", of(api.SimIs))),
		":nth-child()":                    {},
		":nth-child( )":                   {},
		":nth-child(1,2)":                 {},
		":nth-child(x)":                   {},
		":nth-child(1.0)":                 {},
		":nth-child(2n+)":                 {},
		":nth-child((1))":                 {},
		":nth-child(1())":                 {},
		":nth-child(n(1))":                {},
		":nth-child(1 2)":                 {},
		":nth-child(1 a)":                 {},
		":nth-child(of)":                  {},
		":nth-child(of a)":                {},
		":nth-child(1 of)":                {},
		":nth-child(1 of )":               {},
		":nth-child(1 of a,)":             {},
		":nth-child(1 of ,a)":             {},
		":nth-child(1 of a, 5)":           {},
		":nth-child(1 of > a)":            {},
		":nth-child(1of a)":               {},
		":nth-child(nof a)":               {},
		":nth-child(1 'of' a)":            {},
		":nth-child(1 of(a))":             {},
		":nth-child(1 (of) a)":            {},
		":nth-child(1 of (a))":            {},
		":nth-child(x of a)":              {},
		":nth-child(1 x of a)":            {},
		":nth-child(a of 1)":              {},
		": nth-child(1)":                  {},
		":nth-child (1)":                  {},
		":first-child(1)":                 {},
		":nth-child(1 of a:has(:has(b)))": {},
	} {
		if want.Kind == 0 {
			checkRead(t, s, nil)
			continue
		}
		checkRead(t, s, list(one("", want)))
	}
}

func TestReadComplex(t *testing.T) {
	a := one("a")
	for s, want := range map[string]api.Complex{
		"a b":                          then(a, api.CombDescendant, "b"),
		"a \n /**/ \t b":               then(a, api.CombDescendant, "b"),
		"a/**/ /**/b":                  then(a, api.CombDescendant, "b"),
		"a>b":                          then(a, api.CombChild, "b"),
		"a > b":                        then(a, api.CombChild, "b"),
		"a >b":                         then(a, api.CombChild, "b"),
		"a> b":                         then(a, api.CombChild, "b"),
		"a /**/ > /**/ b":              then(a, api.CombChild, "b"),
		"a+b":                          then(a, api.CombNext, "b"),
		"a + b":                        then(a, api.CombNext, "b"),
		"a~b":                          then(a, api.CombLater, "b"),
		"a ~ b":                        then(a, api.CombLater, "b"),
		"a>b c":                        then(then(a, api.CombChild, "b"), api.CombDescendant, "c"),
		"a b>c":                        then(then(a, api.CombDescendant, "b"), api.CombChild, "c"),
		"a+b~c":                        then(then(a, api.CombNext, "b"), api.CombLater, "c"),
		"a *":                          then(a, api.CombDescendant, "*"),
		"a .b":                         then(a, api.CombDescendant, "", class("b")),
		"a #b":                         then(a, api.CombDescendant, "", id("b")),
		"a [b]":                        then(a, api.CombDescendant, "", attr("b", api.AttrHas, "")),
		"a :link":                      then(a, api.CombDescendant, "", alone(api.SimLink)),
		"a>.b":                         then(a, api.CombChild, "", class("b")),
		"a+-b":                         then(a, api.CombNext, "-b"),
		"* > *":                        then(one("*"), api.CombChild, "*"),
		" a b ":                        then(a, api.CombDescendant, "b"),
		".x.y #z":                      then(one("", class("x"), class("y")), api.CombDescendant, "", id("z")),
		"> a":                          {},
		"a >":                          {},
		"a > ":                         {},
		"a > > b":                      {},
		"a >> b":                       {},
		"a >+ b":                       {},
		"a + + b":                      {},
		"a ~= b":                       {},
		">":                            {},
		"+ a":                          {},
		"~a":                           {},
		"a || b":                       {},
		"a | b":                        {},
		"a / b":                        {},
		"a - b":                        {},
		"a +5":                         {},
		"a+5b":                         {},
		"a 5":                          {},
		"a > 5":                        {},
		"a > b 5":                      {},
		"a . b":                        {},
		"a '>' b":                      {},
		"a --> b":                      {},
		"a <!-- b":                     {},
		"a b > c]":                     {},
		"a" + strings.Repeat(">a", 64): {},
	} {
		if len(want.Parts) == 0 {
			checkRead(t, s, nil)
			continue
		}
		checkRead(t, s, list(want))
	}
	most := a
	for range 63 {
		most = then(most, api.CombChild, "a")
	}
	checkRead(t, "a"+strings.Repeat(">a", 63), list(most))
}

func TestReadLists(t *testing.T) {
	a, b, c := one("a"), one("b"), one("c")
	for s, want := range map[string][]api.Complex{
		"a,b":              {a, b},
		" a , b ":          {a, b},
		"a,a":              {a, a},
		"b,a,c":            {b, a, c},
		"a/**/,/**/b":      {a, b},
		"a>b,c":            {then(a, api.CombChild, "b"), c},
		"a,":               nil,
		",a":               nil,
		"a,,b":             nil,
		",":                nil,
		"a, ,b":            nil,
		"a,5":              nil,
		"5,a":              nil,
		"a,b>":             nil,
		"a;b":              nil,
		"[a,b]":            nil,
		"(a,b)":            nil,
		":is(a,b)":         {one("", of(api.SimIs, a, b))},
		":is(a),b":         {one("", of(api.SimIs, a)), b},
		":IS( a )":         {one("", of(api.SimIs, a))},
		"a:where(b)":       {one("a", of(api.SimWhere, b))},
		":not(a,b)":        {one("", of(api.SimNot, a, b))},
		":is(a b, > c)":    {one("", of(api.SimIs, then(a, api.CombDescendant, "b")))},
		":is()":            {one("", of(api.SimIs))},
		":is( )":           {one("", of(api.SimIs))},
		":is(":             {one("", of(api.SimIs))},
		":where(,)":        {one("", of(api.SimWhere))},
		":is(5,/,'x')":     {one("", of(api.SimIs))},
		":is(a,5)":         {one("", of(api.SimIs, a))},
		":where(5,a,,b,)":  {one("", of(api.SimWhere, a, b))},
		":is(a;b,c)":       {one("", of(api.SimIs, c))},
		":is([a,b],c)":     {one("", of(api.SimIs, c))},
		":is((a,b),c)":     {one("", of(api.SimIs, c))},
		":is(a::b,c)":      {one("", of(api.SimIs, c))},
		":is(:not(a,5),c)": {one("", of(api.SimIs, c))},
		":is(:not(),c)":    {one("", of(api.SimIs, c))},
		":is(:is(a,5),c)":  {one("", of(api.SimIs, one("", of(api.SimIs, a)), c))},
		":not(:is(5))":     {one("", of(api.SimNot, one("", of(api.SimIs))))},
		":not()":           nil,
		":not( )":          nil,
		":not(a,)":         nil,
		":not(,a)":         nil,
		":not(a,5)":        nil,
		":not(> a)":        nil,
		":not(a":           {one("", of(api.SimNot, a))},
		": is(a)":          nil,
		":is (a)":          nil,
		":is(a)b":          nil,
		":is(a)*":          nil,
		":is(a).b":         {one("", of(api.SimIs, a), class("b"))},
		":is(a) b":         {then(one("", of(api.SimIs, a)), api.CombDescendant, "b")},
		":is(a):not(b)":    {one("", of(api.SimIs, a), of(api.SimNot, b))},
		":is(.a" + strings.Repeat("x", 64) + ",b)":      {one("", of(api.SimIs, b))},
		":is(" + strings.Repeat(".x", 65) + ",b)":       {one("", of(api.SimIs, b))},
		":is(a" + strings.Repeat(">a", 64) + ",b)":      {one("", of(api.SimIs, b))},
		":is([a='" + strings.Repeat("x", 401) + "'],b)": {one("", of(api.SimIs, b))},
		":is(:nth-child(1 of b,5),b)":                   {one("", of(api.SimIs, b))},
	} {
		checkRead(t, s, want)
	}
}

func TestReadRelative(t *testing.T) {
	a := led(api.CombDescendant, one("a"))
	has := func(l ...api.Complex) []api.Complex { return list(one("", of(api.SimHas, l...))) }
	for s, want := range map[string][]api.Complex{
		":has(a)":                    has(a),
		":HAS( a )":                  has(a),
		":has(>a)":                   has(led(api.CombChild, a)),
		":has( > a )":                has(led(api.CombChild, a)),
		":has(>/**/ /**/a)":          has(led(api.CombChild, a)),
		":has(+a)":                   has(led(api.CombNext, a)),
		":has(~ a)":                  has(led(api.CombLater, a)),
		":has(> a > b)":              has(then(led(api.CombChild, a), api.CombChild, "b")),
		":has(a b)":                  has(then(a, api.CombDescendant, "b")),
		":has(a, > a, ~a)":           has(a, led(api.CombChild, a), led(api.CombLater, a)),
		":has(>.a)":                  has(led(api.CombChild, one("", class("a")))),
		":has(:not(a))":              has(led(api.CombDescendant, one("", of(api.SimNot, one("a"))))),
		":has(:is(a, > a))":          has(led(api.CombDescendant, one("", of(api.SimIs, one("a"))))),
		":has(:not(> a))":            nil,
		":has()":                     nil,
		":has( )":                    nil,
		":has(>)":                    nil,
		":has(> )":                   nil,
		":has(> > a)":                nil,
		":has(>> a)":                 nil,
		":has(>+a)":                  nil,
		":has(a >)":                  nil,
		":has(a,)":                   nil,
		":has(a, 5)":                 nil,
		":has(a, >)":                 nil,
		":has(| a)":                  nil,
		":has(:nth-child(1 of > a))": nil,
	} {
		checkRead(t, s, want)
	}
}

// P8.2: what may be there depends on the lists that it is in.

func TestReadDeepLists(t *testing.T) {
	for s, want := range map[string]string{
		":is(:is(:is(a)))":                               ":is(:is(:is(a)))",
		":is(:is(:is(:is(a))))":                          ":is(:is(:is()))",
		":is(:is(:is(:is())))":                           ":is(:is(:is()))",
		":is(:is(:is(:is(a), b)))":                       ":is(:is(:is(b)))",
		":is(:is(:is(:not(a), b), c), d)":                ":is(:is(:is(b), c), d)",
		":is(:is(:is(:nth-child(1 of a), b)))":           ":is(:is(:is(b)))",
		":is(:is(:is(:nth-child(1), b)))":                ":is(:is(:is(:first-child, b)))",
		":is(:is(:is([a], b)))":                          ":is(:is(:is([a], b)))",
		":is(:is(:is(:is(:is(a)), b)))":                  ":is(:is(:is(b)))",
		":not(:not(:not(a)))":                            ":not(:not(:not(a)))",
		":not(:not(:not(:not(a))))":                      "",
		":not(:not(:not(:is(a))))":                       "",
		":not(:not(:not(:is())))":                        "",
		":not(:not(:is(:not(a))))":                       ":not(:not(:is()))",
		":not(:is(:not(:not(a)), b))":                    ":not(:is(b))",
		":nth-child(1 of :nth-child(1 of :is(a)))":       ":nth-child(1 of :nth-child(1 of :is(a)))",
		":nth-child(1 of :nth-child(1 of :is(:is(a))))":  ":nth-child(1 of :nth-child(1 of :is()))",
		":nth-child(1 of :nth-child(1 of :not(:is(a))))": "",
		":has(:is(:where(a)))":                           ":has(:is(:where(a)))",
		":has(:is(:where(:not(a))))":                     ":has(:is(:where()))",
		":has(:has(a))":                                  "",
		":has(a, :has(a))":                               "",
		":has(:is(:has(a)))":                             ":has(:is())",
		":has(:is(a, :has(a)))":                          ":has(:is(a))",
		":has(:where(a, :is(b, :has(a))))":               ":has(:where(a, :is(b)))",
		":has(:not(:has(a)))":                            "",
		":has(:nth-child(1 of :has(a)))":                 "",
		":has(:is(:not(:has(a)), b))":                    ":has(:is(b))",
		":is(:has(a))":                                   ":is(:has(a))",
		":is(:has(:has(a)), b)":                          ":is(b)",
		":is(:not(:has(a)), :has(b))":                    ":is(:not(:has(a)), :has(b))",
		":has(a):has(b)":                                 ":has(a):has(b)",
		":has(a) :has(b), :has(c)":                       ":has(a) :has(b), :has(c)",
		":not(:has(> a, + b))":                           ":not(:has(> a, + b))",
		"a:is(b:is(c:is(d:is(e) f, g), h), i):not(j)":    "a:is(b:is(c:is(g), h), i):not(j)",
		":is(:is(:has(a)))":                              ":is(:is(:has(a)))",
		":is(:is(:is(:has(a))))":                         ":is(:is(:is()))",
	} {
		checkText(t, s, want)
	}
}

func many(s string, count int) string { return strings.TrimSuffix(strings.Repeat(s+",", count), ",") }

func TestReadErrors(t *testing.T) {
	for what, c := range map[string]struct {
		s    string
		want api.Errno
	}{
		"as long as may be":                  {strings.Repeat(" ", 3999) + "a", api.OK},
		"too long":                           {strings.Repeat(" ", 4000) + "a", api.ErrLong},
		"too long, and none":                 {strings.Repeat(",", 4001), api.ErrLong},
		"too many tokens":                    {many("a", 750) + ",,", api.ErrMany},
		"as many tokens as may be, and none": {many("a", 750) + ",", api.ErrForm},
		"too deep":                           {"a:is(" + strings.Repeat("(", 16), api.ErrDeep},
		"as deep as may be":                  {"a:is(" + strings.Repeat("(", 15), api.OK},
		"too deep, and none":                 {"5" + strings.Repeat("(", 17), api.ErrDeep},
		"too many closers":                   {":is(" + strings.Repeat(",", 1498), api.ErrMany},
		"as many closers as may be":          {":is(" + strings.Repeat(",", 1497), api.OK},
		"as many as may be":                  {many("a", 64), api.OK},
		"too many":                           {many("a", 65), api.ErrMany},
		"too many, and none":                 {many("a", 65) + ",", api.ErrForm},
		"too many, and none in front":        {"5," + many("a", 65), api.ErrForm},
		"as many as may be in a list":        {":is(" + many("a", 63) + ")", api.OK},
		"too many in a list":                 {":is(" + many("a", 64) + ")", api.ErrMany},
		"too many in :where":                 {":where(" + many("a", 64) + ")", api.ErrMany},
		"too many in :not":                   {":not(" + many("a", 64) + ")", api.ErrMany},
		"too many in :has":                   {":has(" + many("a", 64) + ")", api.ErrMany},
		"as many as may be in :has":          {":has(" + many("a", 63) + ")", api.OK},
		"too many places":                    {":nth-child(1 of " + many("a", 64) + ")", api.ErrMany},
		"as many places as may be":           {":nth-child(1 of " + many("a", 63) + ")", api.OK},
		"as many as may be in lists":         {many(":is(:not(a))", 21) + ",a", api.OK},
		"too many in lists":                  {many(":is(:not(a))", 21) + ",a,a", api.ErrMany},
		"many that are left out":             {":is(" + many("a", 63) + strings.Repeat(",5", 100) + ")", api.OK},
		"many in lists that are left out":    {":is(b, :not(" + many("a", 100) + ", 5))", api.OK},
		"many in lists that may be there":    {":is(b, :not(" + many("a", 100) + "))", api.ErrMany},
		"many in one compound":               {strings.Repeat(":is(a)", 63), api.OK},
		"too many in one compound":           {strings.Repeat(":is(a)", 64), api.ErrMany},
		"empty lists are none":               {strings.Repeat(":is()", 64), api.OK},
		"too many simple selectors":          {strings.Repeat(":is()", 65), api.ErrForm},
		"too many, with too long a name":     {many("a", 65) + "." + strings.Repeat("x", 65), api.ErrForm},
	} {
		l, e := seltext.Read(c.s)
		if e != c.want || (len(l) > 0) != (e == api.OK) {
			t.Errorf("%s: Read = %.100v, %d; want %d", what, l, int(e), int(c.want))
		}
		if n, f := seltext.Count(l); e == api.OK && (f != api.OK || n > api.MaxComplex) {
			t.Errorf("%s: Count = %d, %d", what, n, int(f))
		}
	}
}

// P8.2: values need not be those of a text.

func TestOfErrors(t *testing.T) {
	looped := []api.Value{block(parens)}
	looped[0].List = looped
	deep := leaves(ident("a"))
	for range 17 {
		deep = []api.Value{block(parens, deep...)}
	}
	for what, c := range map[string]struct {
		v    []api.Value
		want api.Errno
	}{
		"none":                      {nil, api.ErrForm},
		"one":                       {leaves(ident("a")), api.OK},
		"too deep":                  {deep, api.ErrDeep},
		"inside itself":             {looped, api.ErrDeep},
		"too many":                  {slices.Repeat(leaves(comma), 1501), api.ErrMany},
		"too deep and too many":     {append(slices.Clone(deep), slices.Repeat(leaves(comma), 1501)...), api.ErrDeep},
		"a list without a block":    {[]api.Value{{Token: ident("a"), List: leaves(ident("a"))}}, api.ErrBad},
		"its closer in a block":     {[]api.Value{block(squares, leaves(ident("a"), mark(api.TokCloseSquare))...)}, api.ErrBad},
		"a list in :is, no block":   {append(leaves(colon), block(function("is"), api.Value{Token: ident("a"), List: leaves(comma)})), api.ErrBad},
		"bad, and too many":         {append(slices.Repeat(leaves(ident("a"), comma), 65), api.Value{Token: ident("a"), List: leaves(comma)}), api.ErrBad},
		"no form, and too many":     {slices.Repeat(leaves(ident("a"), comma), 65), api.ErrForm},
		"too many complex ones":     {append(slices.Repeat(leaves(ident("a"), comma), 64), leaves(ident("a"))...), api.ErrMany},
		"as many complex as may be": {append(slices.Repeat(leaves(ident("a"), comma), 63), leaves(ident("a"))...), api.OK},
	} {
		if e := nest.Check(c.v); e != c.want && c.want != api.ErrForm && e != api.OK {
			t.Fatalf("%s: nest.Check says %d", what, int(e))
		}
		l, e := seltext.Of(c.v)
		if e != c.want || (len(l) > 0) != (e == api.OK) {
			t.Errorf("%s: Of = %.100v, %d; want %d", what, l, int(e), int(c.want))
		}
	}
}

// odd is a token with all that its kind does not use.
func odd(t api.Token) api.Token {
	t.Num, t.Unit = 5, "u"
	return t
}

func TestOfOddTokens(t *testing.T) {
	zero, long := "a\x00", strings.Repeat("x", 65)
	for what, c := range map[string]struct {
		v    []api.Value
		want []api.Complex
	}{
		"odd ones":                      {leaves(odd(ident("A")), odd(dot), odd(ident("B")), odd(hash("c")), odd(colon), odd(ident("root"))), list(one("a", class("B"), id("c"), alone(api.SimRoot)))},
		"odd spaces and combinators":    {leaves(odd(space), ident("a"), odd(space), odd(space), odd(delim(">")), odd(space), ident("b"), odd(space)), list(then(one("a"), api.CombChild, "b"))},
		"an odd comma":                  {leaves(ident("a"), odd(comma), ident("b")), list(one("a"), one("b"))},
		"an odd attribute":              {[]api.Value{block(odd(squares), leaves(odd(ident("A")), odd(delim("^")), odd(delim("=")), odd(str("v")), odd(ident("I")))...)}, list(one("", folded(attr("a", api.AttrBegins, "v"))))},
		"an odd function":               {append(leaves(colon), block(odd(function("IS")), leaves(ident("a"))...)), list(one("", of(api.SimIs, one("a"))))},
		"an id that starts no name":     {leaves(hash("1")), list(one("", id("1")))},
		"a class that starts no name":   {leaves(dot, ident("1")), list(one("", class("1")))},
		"a tag of capital letters":      {leaves(ident("ÄB")), list(one("Äb"))},
		"a hash that is no id":          {leaves(api.Token{Kind: api.TokHash, Text: "a"}), nil},
		"a byte 0 in a tag":             {leaves(ident(zero)), nil},
		"a byte 0 in a class":           {leaves(dot, ident(zero)), nil},
		"a byte 0 in an id":             {leaves(hash(zero)), nil},
		"a byte 0 in an attribute":      {[]api.Value{block(squares, leaves(ident(zero))...)}, nil},
		"a byte 0 in its value":         {[]api.Value{block(squares, leaves(ident("a"), delim("="), str(zero))...)}, nil},
		"an empty value":                {[]api.Value{block(squares, leaves(ident("a"), delim("="), ident(""))...)}, list(one("", attr("a", api.AttrIs, "")))},
		"an empty name of an attribute": {[]api.Value{block(squares, leaves(ident(""))...)}, nil},
		"an empty class":                {leaves(dot, ident("")), nil},
		"an empty id":                   {leaves(hash("")), nil},
		"an empty tag alone":            {leaves(ident("")), nil},
		"an empty tag and a class":      {leaves(ident(""), dot, ident("a")), list(one("", class("a")))},
		"a long tag":                    {leaves(ident(long)), nil},
		"a longer delim":                {leaves(ident("a"), delim(">+"), ident("b")), nil},
		"a longer operator":             {[]api.Value{block(squares, leaves(ident("a"), delim("~|"), delim("="), ident("b"))...)}, nil},
		"an operator in one":            {[]api.Value{block(squares, leaves(ident("a"), delim("~="), ident("b"))...)}, nil},
		"an empty delim":                {leaves(ident("a"), delim(""), ident("b")), nil},
		"no kind":                       {leaves(mark(0)), nil},
		"a kind that is none":           {leaves(mark(25)), nil},
		"a colon as a delim":            {leaves(delim(":"), ident("root")), nil},
		"a dot as an ident":             {leaves(ident("."), ident("a")), nil},
		"a star as an ident":            {leaves(ident("*")), list(one("*"))},
		"a part with a byte 0 in :is":   {append(leaves(colon), block(function("is"), leaves(ident(zero), comma, ident("a"))...)), list(one("", of(api.SimIs, one("a"))))},
		"a number that is none":         {append(leaves(colon), block(function("nth-child"), leaves(api.Token{Kind: api.TokNumber, Num: 1500, Flag: true})...)), nil},
		"a number that is too great":    {append(leaves(colon), block(function("nth-child"), leaves(api.Token{Kind: api.TokNumber, Num: math.MaxInt64, Flag: true})...)), nil},
		"a function without its block":  {leaves(colon, function("is")), list(one("", of(api.SimIs)))},
		"many spaces":                   {leaves(space, space, ident("a"), space, space, ident("b"), space, space, comma, space, space, ident("c"), space), list(then(one("a"), api.CombDescendant, "b"), one("c"))},
	} {
		wantE := api.OK
		if len(c.want) == 0 {
			wantE = api.ErrForm
		}
		if l, e := seltext.Of(c.v); e != wantE || !same(l, c.want) {
			t.Errorf("%s: Of = %+v, %d; want %+v", what, l, int(e), c.want)
		}
	}
}

// P8.1: Check and Count.

// checkSays checks what Check and Count say of a list, and that Text has their error.
func checkSays(t *testing.T, what string, l []api.Complex, count int, want api.Errno) {
	t.Helper()
	if e := seltext.Check(l); e != want {
		t.Errorf("%s: Check = %d, want %d", what, int(e), int(want))
	}
	if n, e := seltext.Count(l); n != count || e != want {
		t.Errorf("%s: Count = %d, %d; want %d, %d", what, n, int(e), count, int(want))
	}
	if s, e := seltext.Text(l); want != api.OK && (s != "" || e != want) {
		t.Errorf("%s: Text = %.100q, %d; want %d", what, s, int(e), int(want))
	}
}

// checkSimple checks whether a simple selector, but a valid SimHas, is valid alone, among others, and in lists.
func checkSimple(t *testing.T, what string, s api.Simple, valid bool) {
	t.Helper()
	want := api.ErrBad
	if valid {
		want = api.OK
	}
	for _, l := range [][]api.Complex{
		list(one("", s)),
		list(one("a", class("x"), s)),
		list(one("a"), then(one("b"), api.CombNext, "", s)),
		list(one("", of(api.SimIs, one("", s)))),
		list(one("", of(api.SimHas, led(api.CombChild, one("", s))))),
	} {
		if e := seltext.Check(l); e != want {
			t.Errorf("%s: Check(%+v) = %d, want %d", what, l, int(e), int(want))
		}
	}
}

func TestCheckNames(t *testing.T) {
	for s, c := range map[string]struct{ name, small bool }{
		"":                      {},
		"a":                     {true, true},
		"A":                     {true, false},
		"aB":                    {true, false},
		"*":                     {true, true},
		"-":                     {true, true},
		"1":                     {true, true},
		" ":                     {true, true},
		"\n\r\f":                {true, true},
		"Ä\xff":                 {true, true},
		"a\x00":                 {},
		"\x00":                  {},
		"@[`{":                  {true, true},
		strings.Repeat("a", 64): {true, true},
		strings.Repeat("A", 64): {true, false},
		strings.Repeat("a", 65): {},
		strings.Repeat("é", 32): {true, true},
		strings.Repeat("é", 33): {},
	} {
		checkSimple(t, "id", id(s), c.name)
		checkSimple(t, "class", class(s), c.name)
		checkSimple(t, "attribute", attr(s, api.AttrHas, ""), c.small)
		checkSimple(t, "attribute with a value", attr(s, api.AttrIs, "v"), c.small)
		want := api.ErrBad
		if c.small || s == "" {
			want = api.OK
		}
		if e := seltext.Check(list(one(s, class("x")))); e != want {
			t.Errorf("Check with the tag %q = %d, want %d", s, int(e), int(want))
		}
		if s == "" {
			want = api.ErrBad
		}
		if e := seltext.Check(list(one(s))); e != want {
			t.Errorf("Check of the tag %q = %d, want %d", s, int(e), int(want))
		}
	}
}

func TestCheckAttributes(t *testing.T) {
	for op := range 256 {
		s := attr("a", uint8(op), "v")
		checkSimple(t, "operator", s, op >= 1 && op <= 6)
		checkSimple(t, "operator, fold", folded(s), op >= 1 && op <= 6)
		s.Value = ""
		checkSimple(t, "operator, no value", s, op <= 6)
		checkSimple(t, "operator, no value, fold", folded(s), op >= 1 && op <= 6)
	}
	for s, valid := range map[string]bool{
		"\x00":                   false,
		"v\x00w":                 false,
		"V \n\r\f\"'\\\xff":      true,
		strings.Repeat("v", 400): true,
		strings.Repeat("v", 401): false,
	} {
		checkSimple(t, "value", attr("a", api.AttrIs, s), valid)
		checkSimple(t, "value", folded(attr("a", api.AttrInside, s)), valid)
	}
}

func TestCheckKinds(t *testing.T) {
	for kind := range 256 {
		k := uint8(kind)
		checkSimple(t, "a kind alone", alone(k), k >= api.SimLink && k <= api.SimEmpty || k == api.SimNth || k == api.SimNthLast || k == api.SimIs || k == api.SimWhere)
		name := api.Simple{Kind: k, Name: "a"}
		checkSimple(t, "a name", name, k >= api.SimId && k <= api.SimAttr)
		op := api.Simple{Kind: k, Name: "a", Op: api.AttrIs}
		checkSimple(t, "an operator", op, k == api.SimAttr)
		op.Name = ""
		checkSimple(t, "an operator alone", op, false)
		value := api.Simple{Kind: k, Value: "a"}
		checkSimple(t, "a value", value, false)
		value.Name = "a"
		checkSimple(t, "a name and a value", value, false)
		checkSimple(t, "fold", folded(alone(k)), false)
		checkSimple(t, "a name and fold", folded(name), false)
		isNth := k == api.SimNth || k == api.SimNthLast
		checkSimple(t, "a progression", nth(k, 2, 1), isNth)
		checkSimple(t, "Of without a list", api.Simple{Kind: k, Of: true}, false)
		checkSimple(t, "Of with an empty list", api.Simple{Kind: k, Of: true, List: []api.Complex{}}, false)
		checkSimple(t, "Of with a list", nth(k, 0, 1, one("a")), isNth)
		checkSimple(t, "Of with a relative list", nth(k, 0, 1, led(api.CombChild, one("a"))), false)
		checkSimple(t, "a list", of(k, one("a")), k >= api.SimIs && k <= api.SimNot)
		checkSimple(t, "a name and a list", api.Simple{Kind: k, Name: "a", List: list(one("a"))}, false)
		checkSimple(t, "a list that is not valid", of(k, one("")), false)
		relative := list(one("", of(k, led(api.CombChild, one("a")))))
		if e := seltext.Check(relative); (e == api.OK) != (k == api.SimHas) {
			t.Errorf("kind %d: Check of a relative list = %d", kind, int(e))
		}
		if e := seltext.Check(list(one("", of(k, led(api.CombChild, one("a")), one("a"))))); e != api.ErrBad {
			t.Errorf("kind %d: Check of a mixed list = %d", kind, int(e))
		}
	}
}

func TestCheckUntold(t *testing.T) {
	a := list(one("a"))
	valid := []api.Simple{id("a"), class("a"), attr("a", api.AttrHas, ""), folded(attr("a", api.AttrWord, "v")),
		alone(api.SimLink), alone(api.SimVisited), alone(api.SimAnyLink), alone(api.SimRoot), alone(api.SimEmpty),
		nth(api.SimNth, 1, 2), nth(api.SimNthLast, 1, 2), nth(api.SimNth, 1, 2, a...), of(api.SimIs, a...), of(api.SimWhere, a...), of(api.SimNot, a...),
		of(api.SimHas, led(api.CombNext, one("a")))}
	for _, s := range valid {
		if e := seltext.Check(list(one("", s))); e != api.OK {
			t.Fatalf("Check(%+v) = %d", s, int(e))
		}
		isAttr, isNth, hasList := s.Kind == api.SimAttr, s.Kind == api.SimNth || s.Kind == api.SimNthLast, s.Kind >= api.SimIs
		for _, c := range []struct {
			told   bool
			change func(s *api.Simple)
		}{
			{s.Kind <= api.SimAttr, func(s *api.Simple) { s.Name = "b" }},
			{isAttr, func(s *api.Simple) { s.Op = api.AttrIs }},
			{isAttr && s.Op != api.AttrHas, func(s *api.Simple) { s.Value = "b" }},
			{isAttr && s.Op != api.AttrHas, func(s *api.Simple) { s.Fold = true }},
			{isNth, func(s *api.Simple) { s.Anb.A = 5 }},
			{isNth, func(s *api.Simple) { s.Anb.B = 5 }},
			{s.Of, func(s *api.Simple) { s.Of = true }},
			{isNth && !s.Of, func(s *api.Simple) { s.Of = false }},
			{s.Of || hasList && s.Kind != api.SimHas, func(s *api.Simple) { s.List = list(one("b"), one("c")) }},
			{s.Kind == api.SimHas, func(s *api.Simple) { s.List = list(led(api.CombChild, one("b"))) }},
			{!s.Of && s.Kind != api.SimNot && s.Kind != api.SimHas, func(s *api.Simple) { s.List = []api.Complex{} }},
		} {
			changed := s
			c.change(&changed)
			// What does not change anything says nothing.
			if sameCompound(compound("", s), compound("", changed)) {
				continue
			}
			if e := seltext.Check(list(one("", changed))); (e == api.OK) != c.told || e != api.OK && e != api.ErrBad {
				t.Errorf("Check(%+v) = %d, told: %v", changed, int(e), c.told)
			}
		}
	}
}

func TestCheckProgressions(t *testing.T) {
	const most = api.MaxWhole
	for _, kind := range []uint8{api.SimNth, api.SimNthLast} {
		for _, n := range []int64{0, 1, -1, most, -most, most + 1, -most - 1, math.MaxInt64, math.MinInt64} {
			valid := n <= most && n >= -most
			checkSimple(t, "A", nth(kind, n, 0), valid)
			checkSimple(t, "B", nth(kind, 0, n), valid)
			checkSimple(t, "A with a list", nth(kind, n, 0, one("a")), valid)
			checkSimple(t, "B with a list", nth(kind, 0, n, one("a")), valid)
		}
	}
}

func TestCheckComplex(t *testing.T) {
	a := one("a")
	parts := func(count int) api.Complex {
		return api.Complex{Parts: slices.Repeat([]api.Compound{compound("a")}, count), Combs: slices.Repeat([]uint8{api.CombNext}, max(count-1, 0))}
	}
	for what, c := range map[string]struct {
		c     api.Complex
		valid bool
	}{
		"no compounds":                  {api.Complex{}, false},
		"one":                           {a, true},
		"one with no combinators":       {api.Complex{Parts: a.Parts, Combs: []uint8{}}, true},
		"one with a combinator":         {api.Complex{Parts: a.Parts, Combs: []uint8{api.CombChild}}, false},
		"two without a combinator":      {api.Complex{Parts: slices.Repeat(a.Parts, 2)}, false},
		"two with two combinators":      {api.Complex{Parts: slices.Repeat(a.Parts, 2), Combs: []uint8{1, 1}}, false},
		"as many as may be":             {parts(64), true},
		"too many":                      {parts(65), false},
		"an empty compound":             {one(""), false},
		"an empty compound behind":      {then(a, api.CombChild, ""), false},
		"an empty compound in front":    {then(one(""), api.CombChild, "a"), false},
		"as many simple as may be":      {one("a", slices.Repeat([]api.Simple{class("x")}, 64)...), true},
		"too many simple ones":          {one("a", slices.Repeat([]api.Simple{class("x")}, 65)...), false},
		"too many simple ones behind":   {then(a, api.CombChild, "", slices.Repeat([]api.Simple{class("x")}, 65)...), false},
		"combinators without compounds": {api.Complex{Combs: []uint8{1}}, false},
	} {
		want, count := api.ErrBad, 0
		if c.valid {
			want, count = api.OK, 1
		}
		checkSays(t, what, list(c.c), count, want)
		checkSays(t, what+", with others", list(a, c.c, a), 3*count, want)
		checkSays(t, what+", in a list", list(one("", of(api.SimNot, a, c.c))), 3*count, want)
	}
	for comb := range 256 {
		want := api.OK
		if comb < 1 || comb > 4 {
			want = api.ErrBad
		}
		if e := seltext.Check(list(then(a, uint8(comb), "b"))); e != want {
			t.Errorf("Check with the combinator %d = %d", comb, int(e))
		}
		if e := seltext.Check(list(then(then(a, uint8(comb), "b"), api.CombChild, "c"))); e != want {
			t.Errorf("Check with the first combinator %d = %d", comb, int(e))
		}
		lead := led(uint8(comb), a)
		if e := seltext.Check(list(one("", of(api.SimHas, lead)))); e != want {
			t.Errorf("Check with the relative lead %d = %d", comb, int(e))
		}
		if e := seltext.Check(list(lead)); (e == api.OK) != (comb == 0) {
			t.Errorf("Check with the lead %d = %d", comb, int(e))
		}
		if e := seltext.Check(list(one("", of(api.SimIs, lead)))); (e == api.OK) != (comb == 0) {
			t.Errorf("Check of :is with the lead %d = %d", comb, int(e))
		}
	}
}

func TestCheckLists(t *testing.T) {
	a := one("a")
	has := func(l ...api.Complex) api.Complex {
		l = slices.Clone(l)
		for i := range l {
			l[i].Lead = api.CombChild
		}
		return one("", of(api.SimHas, l...))
	}
	in := func(kind uint8, l ...api.Complex) api.Complex { return one("", of(kind, l...)) }
	for what, c := range map[string]struct {
		l     []api.Complex
		count int
		want  api.Errno
	}{
		"none":                             {nil, 0, api.ErrBad},
		"an empty one":                     {[]api.Complex{}, 0, api.ErrBad},
		"one":                              {list(a), 1, api.OK},
		"many":                             {slices.Repeat(list(a), 64), 64, api.OK},
		"too many":                         {slices.Repeat(list(a), 65), 0, api.ErrMany},
		"far too many":                     {slices.Repeat(list(a), 6500), 0, api.ErrMany},
		"too many, and a bad one":          {append(slices.Repeat(list(a), 65), one("")), 0, api.ErrBad},
		"too many, and a bad one in front": {append(list(one("")), slices.Repeat(list(a), 65)...), 0, api.ErrBad},
		"too many, and one bad in a list":  {append(slices.Repeat(list(a), 65), in(api.SimIs, a, one(""))), 0, api.ErrBad},
		"an empty list":                    {list(in(api.SimIs)), 1, api.OK},
		"many in a list":                   {list(in(api.SimIs, slices.Repeat(list(a), 63)...)), 64, api.OK},
		"too many in a list":               {list(in(api.SimIs, slices.Repeat(list(a), 64)...)), 0, api.ErrMany},
		"too many in :where":               {list(in(api.SimWhere, slices.Repeat(list(a), 64)...)), 0, api.ErrMany},
		"too many in :not":                 {list(in(api.SimNot, slices.Repeat(list(a), 64)...)), 0, api.ErrMany},
		"too many in :has":                 {list(has(slices.Repeat(list(a), 64)...)), 0, api.ErrMany},
		"many in :has":                     {list(has(slices.Repeat(list(a), 63)...)), 64, api.OK},
		"too many places":                  {list(one("", nth(api.SimNth, 0, 1, slices.Repeat(list(a), 64)...))), 0, api.ErrMany},
		"many places":                      {list(one("", nth(api.SimNthLast, 0, 1, slices.Repeat(list(a), 63)...))), 64, api.OK},
		"many in lists":                    {slices.Repeat(list(in(api.SimIs, in(api.SimNot, in(api.SimWhere, a)))), 16), 64, api.OK},
		"too many in lists":                {append(slices.Repeat(list(in(api.SimIs, in(api.SimNot, in(api.SimWhere, a)))), 16), a), 0, api.ErrMany},
		"some of a compound":               {list(then(one("a", of(api.SimIs, a, a), of(api.SimNot, a)), api.CombChild, "b", of(api.SimWhere, a))), 5, api.OK},
		"as deep as may be":                {list(inner(api.SimIs, 3, a)), 4, api.OK},
		"too deep":                         {list(inner(api.SimIs, 4, a)), 0, api.ErrBad},
		"too deep, but empty":              {list(inner(api.SimIs, 3, one("", of(api.SimIs)))), 0, api.ErrBad},
		"as deep as may be, empty":         {list(inner(api.SimIs, 2, one("", of(api.SimWhere)))), 3, api.OK},
		"too deep in :not":                 {list(inner(api.SimNot, 4, a)), 0, api.ErrBad},
		"as deep as may be in :not":        {list(inner(api.SimNot, 3, a)), 4, api.OK},
		"too deep behind":                  {list(a, then(a, api.CombChild, "", class("x"), inner(api.SimWhere, 4, a).Parts[0].Simples[0])), 0, api.ErrBad},
		"places as deep as may be":         {list(inner(api.SimIs, 2, one("", nth(api.SimNth, 0, 1, a)))), 4, api.OK},
		"places too deep":                  {list(inner(api.SimIs, 3, one("", nth(api.SimNth, 0, 1, a)))), 0, api.ErrBad},
		"places without a list":            {list(inner(api.SimIs, 3, one("", nth(api.SimNth, 0, 1)))), 4, api.OK},
		":has as deep as may be":           {list(inner(api.SimIs, 2, has(a))), 4, api.OK},
		":has too deep":                    {list(inner(api.SimIs, 3, has(a))), 0, api.ErrBad},
		":has in :has":                     {list(has(has(a))), 0, api.ErrBad},
		":has in :is in :has":              {list(has(in(api.SimIs, has(a)))), 0, api.ErrBad},
		":has in :not in :has":             {list(has(in(api.SimNot, has(a)))), 0, api.ErrBad},
		":has of places in :has":           {list(has(one("", nth(api.SimNth, 0, 1, has(a))))), 0, api.ErrBad},
		":has behind :has":                 {list(one("", has(a).Parts[0].Simples[0], has(a).Parts[0].Simples[0]), has(a)), 5, api.OK},
		":has behind :has in :is":          {list(in(api.SimIs, has(a), has(a))), 5, api.OK},
		":is in :is in :has":               {list(has(in(api.SimIs, in(api.SimIs, a)))), 4, api.OK},
		"three deep in :has":               {list(has(in(api.SimIs, in(api.SimIs, in(api.SimIs, a))))), 0, api.ErrBad},
	} {
		checkSays(t, what, c.l, c.count, c.want)
	}
}

// P8.3: Text.

func TestText(t *testing.T) {
	a, b := one("a"), one("b")
	for want, l := range map[string][]api.Complex{
		"a":                                 {a},
		"*":                                 {one("*")},
		"a, b":                              {a, b},
		"a b":                               {then(a, api.CombDescendant, "b")},
		"a > b":                             {then(a, api.CombChild, "b")},
		"a + b":                             {then(a, api.CombNext, "b")},
		"a ~ b":                             {then(a, api.CombLater, "b")},
		"a > b c, b":                        {then(then(a, api.CombChild, "b"), api.CombDescendant, "c"), b},
		"#a":                                {one("", id("a"))},
		"a#B.C":                             {one("a", id("B"), class("C"))},
		"*.a":                               {one("*", class("a"))},
		`\31 \20 `:                          {one("1 ")},
		`\- b`:                              {then(one("-"), api.CombDescendant, "b")},
		`\31 `:                              {one("1")},
		`a\20  b`:                           {then(one("a "), api.CombDescendant, "b")},
		`.\31 .-\35 `:                       {one("", class("1"), class("-5"))},
		`#\31 `:                             {one("", id("1"))},
		`\*\*`:                              {one("**")},
		`.\*`:                               {one("", class("*"))},
		`#\*`:                               {one("", id("*"))},
		"[a]":                               {one("", attr("a", api.AttrHas, ""))},
		`[a="b"]`:                           {one("", attr("a", api.AttrIs, "b"))},
		`[a~="b"]`:                          {one("", attr("a", api.AttrWord, "b"))},
		`[a|="b"]`:                          {one("", attr("a", api.AttrDash, "b"))},
		`[a^="b"]`:                          {one("", attr("a", api.AttrBegins, "b"))},
		`[a$="b"]`:                          {one("", attr("a", api.AttrEnds, "b"))},
		`[a*="b"]`:                          {one("", attr("a", api.AttrInside, "b"))},
		`[a=""]`:                            {one("", attr("a", api.AttrIs, ""))},
		`[a="b" i]`:                         {one("", folded(attr("a", api.AttrIs, "b")))},
		`[a*="" i]`:                         {one("", folded(attr("a", api.AttrInside, "")))},
		`[\31 \*="\"\\\a 'é"]`:              {one("", attr("1*", api.AttrIs, "\"\\\n'é"))},
		`[\*]`:                              {one("", attr("*", api.AttrHas, ""))},
		":link:visited:any-link:root:empty": {one("", alone(api.SimLink), alone(api.SimVisited), alone(api.SimAnyLink), alone(api.SimRoot), alone(api.SimEmpty))},
		":first-child":                      {one("", nth(api.SimNth, 0, 1))},
		":last-child":                       {one("", nth(api.SimNthLast, 0, 1))},
		":nth-child(n)":                     {one("", nth(api.SimNth, 1, 0))},
		":nth-last-child(0)":                {one("", nth(api.SimNthLast, 0, 0))},
		":nth-child(2)":                     {one("", nth(api.SimNth, 0, 2))},
		":nth-child(n+1)":                   {one("", nth(api.SimNth, 1, 1))},
		":nth-child(-2n-3)":                 {one("", nth(api.SimNth, -2, -3))},
		":nth-child(1 of a)":                {one("", nth(api.SimNth, 0, 1, a))},
		":nth-last-child(1 of a, b)":        {one("", nth(api.SimNthLast, 0, 1, a, b))},
		":nth-child(2n+1 of a > b, *)":      {one("", nth(api.SimNth, 2, 1, then(a, api.CombChild, "b"), one("*")))},
		":is()":                             {one("", of(api.SimIs))},
		":where()":                          {one("", of(api.SimWhere))},
		":is(a)":                            {one("", of(api.SimIs, a))},
		"a:where(a, b).c":                   {one("a", of(api.SimWhere, a, b), class("c"))},
		":not(a b)":                         {one("", of(api.SimNot, then(a, api.CombDescendant, "b")))},
		":has(a, > a, + a, ~ a)":            {one("", of(api.SimHas, led(api.CombDescendant, a), led(api.CombChild, a), led(api.CombNext, a), led(api.CombLater, a)))},
		":has(> a > b ~ c)":                 {one("", of(api.SimHas, led(api.CombChild, then(then(a, api.CombChild, "b"), api.CombLater, "c"))))},
		":is(:not(:has(> a)), b)":           {one("", of(api.SimIs, one("", of(api.SimNot, one("", of(api.SimHas, led(api.CombChild, a))))), b))},
	} {
		if s, e := seltext.Text(l); s != want || e != api.OK {
			t.Errorf("Text(%+v) = %q, %d; want %q", l, s, int(e), want)
		}
		if got, e := seltext.Read(want); e != api.OK || !same(got, l) {
			t.Errorf("Read(%q) = %+v, %d; want %+v", want, got, int(e), l)
		}
	}
}

// long returns a list whose text has n bytes, 600 or more.
func long(n int) []api.Complex {
	l := one("a")
	for n -= len("a"); n > 200; n -= 66 {
		l = then(l, api.CombDescendant, "", class(strings.Repeat("x", 64)))
	}
	return list(then(l, api.CombDescendant, "", attr("a", api.AttrIs, strings.Repeat("v", n-len(` [a=""]`)))))
}

func TestTextErrors(t *testing.T) {
	stars := strings.Repeat("*", 64)
	for what, c := range map[string]struct {
		l    []api.Complex
		size int
		want api.Errno
	}{
		"as long as may be":        {long(4000), 4000, api.OK},
		"too long":                 {long(4001), 0, api.ErrLong},
		"just not too long":        {long(3999), 3999, api.OK},
		"two as long as may be":    {append(long(2000), long(1998)...), 4000, api.OK},
		"two too long":             {append(long(2000), long(1999)...), 0, api.ErrLong},
		"too long by its end":      {append(long(3998), one("a")), 0, api.ErrLong},
		"long by its end":          {append(long(3997), one("a")), 4000, api.OK},
		"too long in a list":       {list(one("", of(api.SimIs, long(3996)...))), 0, api.ErrLong},
		"long in a list":           {list(one("", of(api.SimIs, long(3995)...))), 4000, api.OK},
		"too long by a bracket":    {append(long(3994), one("", of(api.SimIs))), 0, api.ErrLong},
		"too long by escapes":      {slices.Repeat(list(one(stars)), 31), 0, api.ErrLong},
		"long by escapes":          {slices.Repeat(list(one(stars)), 30), 30*128 + 29*2, api.OK},
		"too many, and too long":   {slices.Repeat(long(4001), 65), 0, api.ErrMany},
		"not valid, and too long":  {append(long(4001), one("")), 0, api.ErrBad},
		"too long by an attribute": {append(long(3000), one("", attr("a", api.AttrIs, strings.Repeat("\n", 400)))), 0, api.ErrLong},
	} {
		s, e := seltext.Text(c.l)
		if len(s) != c.size || e != c.want {
			t.Errorf("%s: Text = %.100q, %d; want %d", what, s, int(e), int(c.want))
		}
		if got, f := seltext.Read(s); e == api.OK && (f != api.OK || !same(got, c.l)) {
			t.Errorf("%s: Read of the text = %.100v, %d", what, got, int(f))
		}
	}
}
