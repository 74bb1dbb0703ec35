package round_test

import (
	"slices"
	"strings"
	"testing"

	"vitrine/api"
	"vitrine/cond"
	"vitrine/decl"
	"vitrine/nest"
	"vitrine/round"
	"vitrine/seltext"
	"vitrine/sheet"
	"vitrine/token"
)

const (
	mostRules = 64
	mostText  = 4000
)

// must returns a value that is made without an error.
func must[T any](x T, e api.Errno) T {
	if e != api.OK {
		panic(e)
	}
	return x
}

func valuesOf(s string) []api.Value { return must(nest.Parse(must(token.Tokens(s)))) }

// What is in rules is told by its text here, as lower layers read it.

func style(selectors, decls string) api.Rule {
	return api.Rule{Kind: api.RuleStyle, Selectors: must(seltext.Read(selectors)), Decls: must(decl.Read(decls))}
}

func media(s string, rules ...api.Rule) api.Rule {
	return api.Rule{Kind: api.RuleMedia, Cond: must(cond.Media(valuesOf(s))), Rules: rules}
}

func supports(s string, rules ...api.Rule) api.Rule {
	return api.Rule{Kind: api.RuleSupports, Cond: must(cond.Supports(valuesOf(s))), Rules: rules}
}

func name(s ...string) []string { return s }

func layer(name []string, rules ...api.Rule) api.Rule {
	return api.Rule{Kind: api.RuleLayer, Names: [][]string{name}, Rules: rules}
}

func bare(rules ...api.Rule) api.Rule { return api.Rule{Kind: api.RuleLayer, Rules: rules} }

func names(l ...[]string) api.Rule { return api.Rule{Kind: api.RuleNames, Names: l} }

func of(l ...api.Rule) api.Sheet { return api.Sheet{Rules: l} }

// count returns how many rules there are in all.
func count(l ...api.Rule) int {
	n := len(l)
	for _, r := range l {
		n += count(r.Rules...)
	}
	return n
}

func many(r api.Rule, count int) []api.Rule { return slices.Repeat([]api.Rule{r}, count) }

// wrap puts a rule into as many blocks of its kind, each in the next one.
func wrap(count int, outer api.Rule, r api.Rule) api.Rule {
	for range count {
		inner := r
		r = outer
		r.Rules = []api.Rule{inner}
	}
	return r
}

// same compares rules, of which an empty list is like none.
func same(a, b api.Rule) bool {
	return a.Kind == b.Kind && slices.EqualFunc(a.Selectors, b.Selectors, sameComplex) && slices.EqualFunc(a.Decls, b.Decls, sameDecl) &&
		sameCond(a.Cond, b.Cond) && slices.EqualFunc(a.Names, b.Names, slices.Equal) && slices.EqualFunc(a.Rules, b.Rules, same)
}

func sameSheet(a, b api.Sheet) bool { return slices.EqualFunc(a.Rules, b.Rules, same) }

func sameComplex(a, b api.Complex) bool {
	return a.Lead == b.Lead && slices.Equal(a.Combs, b.Combs) && slices.EqualFunc(a.Parts, b.Parts, func(p, q api.Compound) bool {
		return p.Tag == q.Tag && slices.EqualFunc(p.Simples, q.Simples, sameSimple)
	})
}

func sameSimple(a, b api.Simple) bool {
	return a.Kind == b.Kind && a.Name == b.Name && a.Op == b.Op && a.Value == b.Value && a.Fold == b.Fold && a.Anb == b.Anb && a.Of == b.Of && slices.EqualFunc(a.List, b.List, sameComplex)
}

func sameCond(a, b api.Cond) bool {
	return a.Kind == b.Kind && a.Name == b.Name && a.Num == b.Num && sameDecl(a.Decl, b.Decl) && slices.EqualFunc(a.List, b.List, sameCond)
}

func sameDecl(a, b api.Decl) bool {
	return a.Name == b.Name && a.Important == b.Important && sameValues(a.Value, b.Value)
}

func sameValues(v, w []api.Value) bool {
	return slices.EqualFunc(v, w, func(x, y api.Value) bool { return x.Token == y.Token && sameValues(x.List, y.List) })
}

// checkText checks the text of a rule, alone and in sheets.
func checkText(t *testing.T, r api.Rule, want string) {
	t.Helper()
	if s, e := round.Rule(r); e != api.OK || s != want {
		t.Errorf("Rule(%+v) = %q, %v; want %q", r, s, e, want)
	}
	if s, e := round.Sheet(of(r)); e != api.OK || s != want {
		t.Errorf("Sheet of %+v = %q, %v; want %q", r, s, e, want)
	}
	if s, e := round.Sheet(of(r, bare(), r)); e != api.OK || s != want+"\n@layer {}\n"+want {
		t.Errorf("Sheet with twice %+v = %q, %v; want %q", r, s, e, want)
	}
	if l, e := round.Texts(of(r, bare(), r)); e != api.OK || !slices.Equal(l, []string{want, "@layer {}", want}) {
		t.Errorf("Texts with twice %+v = %q, %v; want %q", r, l, e, want)
	}
	for start, outer := range map[string]api.Rule{"@media { ": media(""), "@supports (unknown) { ": supports("f()"), "@layer x { ": layer(name("x"))} {
		outer.Rules = []api.Rule{r, bare(), r}
		if s, e := round.Rule(outer); e != api.OK || s != start+want+" @layer {} "+want+" }" {
			t.Errorf("Rule(%+v) = %q, %v; want %q in %q", outer, s, e, want, start)
		}
	}
	if again, e := sheet.Rule(want); e != api.OK || !same(again, r) {
		t.Errorf("%q is read as %+v, %v; want %+v", want, again, e, r)
	}
}

func TestExamples(t *testing.T) {
	const want = "a > b { c: d; e: f }\n@media {}\n@layer x.y { z {} }"
	if s, e := round.Sheet(must(sheet.Read("A>B{c:d;E:f}@media{}@layer x.y{z{}}"))); e != api.OK || s != want {
		t.Errorf("Sheet = %q, %v; want %q", s, e, want)
	}
	if s, e := round.Sheet(must(sheet.Read("A>B{c:d}"))); e != api.OK || s != "a > b { c: d }" {
		t.Errorf("Sheet = %q, %v", s, e)
	}
	if s, e := round.Sheet(of()); e != api.OK || s != "" {
		t.Errorf("Sheet of no rules = %q, %v", s, e)
	}
	if l, e := round.Texts(of()); e != api.OK || len(l) != 0 {
		t.Errorf("Texts of no rules = %q, %v", l, e)
	}
}

// P12.1: the text of a rule.

func TestStyleRules(t *testing.T) {
	for _, test := range []struct{ selectors, decls, want string }{
		{"a", "", "a {}"},
		{"A", "B:c", "a { b: c }"},
		{"a,B>.c", "", "a, b > .c {}"},
		{"*", "b:c;d:e;b:c", "* { b: c; d: e; b: c }"},
		{"a:is( b,5, > c )", "b:c!important;d:e", "a:is(b) { b: c !important; d: e }"},
		{`\31 `, `\31 :\31 `, `\31  { \31 : \31  }`},
		{"#a.b[c]:root:first-child", "--b:", "#a.b[c]:root:first-child { --b:  }"},
		{"a", "--b:;--C:!important", "a { --b: ; --C:  !important }"},
		{"a", "b:{c;d};e:f({})", "a { b: {c;d}; e: f({}) }"},
		{"[a='}']", "b:'}'", `[a="}"] { b: "}" }`},
		{"url", "url:url(x)", "url { url: url(x) }"},
		{"--", "a:--", "-- { a: -- }"},
		{"a+--", "a:-/**/->;b:<!--", "a + -- { a: -/**/->; b: <!-- }"},
		{"a", "b:1/**/em;c:1.50;d:+5;e:5%;f:/ *", "a { b: 1/**/em; c: 1.5; d: 5; e: 5%; f: / * }"},
		{"a", strings.Repeat("b:c;", 32), "a { " + strings.Repeat("b: c; ", 31) + "b: c }"},
	} {
		checkText(t, style(test.selectors, test.decls), test.want)
	}
}

func TestConditions(t *testing.T) {
	for s, want := range map[string]string{
		"":                                     "@media {}",
		" ":                                    "@media {}",
		"Screen":                               "@media screen {}",
		"(min-width:1.5px)and (max-width:0)":   "@media (min-width: 1.5px) and (max-width: 0px) {}",
		"not print,only x and (min-width:5px)": "@media not print, x and (min-width: 5px) {}",
		",":                                    "@media not all, not all {}",
		`a\20 b`:                               `@media a\20 b {}`,
		`\31 `:                                 `@media \31  {}`,
	} {
		checkText(t, media(s), want)
		checkText(t, media(s, style("a", "b:c"), names(name("x"))), want[:len(want)-1]+" a { b: c } @layer x; }")
	}
	for s, want := range map[string]string{
		"(A:b)":                        "@supports (a: b) {}",
		"(--A:)":                       "@supports (--A: ) {}",
		"(a:{b;c}!important)":          "@supports (a: {b;c} !important) {}",
		"f()":                          "@supports (unknown) {}",
		"Not (a:b)":                    "@supports not (a: b) {}",
		"(a:b) or (not ((x) AND f()))": "@supports (a: b) or (not ((unknown) and (unknown))) {}",
	} {
		checkText(t, supports(s), want)
		checkText(t, supports(s, supports(s, style("a", "")), bare()), want[:len(want)-1]+" "+want[:len(want)-1]+" a {} } @layer {} }")
	}
}

func TestLayers(t *testing.T) {
	x, xy := name("x"), name("x", "y")
	odd := name("X.y", "-", "--", "5", "a b", "é", "\n", `"`)
	const oddText = `X\.y.\-.--.\35 .a\20 b.é.\a .\"`
	for _, test := range []struct {
		r    api.Rule
		want string
	}{
		{bare(), "@layer {}"},
		{bare(style("a", "")), "@layer { a {} }"},
		{api.Rule{Kind: api.RuleLayer, Names: [][]string{}, Rules: []api.Rule{}}, "@layer {}"},
		{layer(x), "@layer x {}"},
		{layer(xy, names(xy), style("a", "b:c"), media("")), "@layer x.y { @layer x.y; a { b: c } @media {} }"},
		{layer(odd), "@layer " + oddText + " {}"},
		{layer(name("5")), `@layer \35  {}`},
		{layer(x, layer(xy, bare(layer(x)))), "@layer x { @layer x.y { @layer { @layer x {} } } }"},
		{names(x), "@layer x;"},
		{names(xy), "@layer x.y;"},
		{names(name("5")), `@layer \35 ;`},
		{names(xy, x, xy), "@layer x.y, x, x.y;"},
		{names(odd, x, odd), "@layer " + oddText + ", x, " + oddText + ";"},
		{names(slices.Repeat([][]string{slices.Repeat(x, 16)}, mostRules)...), "@layer " + strings.Repeat(strings.Repeat("x.", 15)+"x, ", mostRules)[:mostRules*33-2] + ";"},
	} {
		if len(test.want) < 1000 {
			checkText(t, test.r, test.want)
		} else if s, e := round.Rule(test.r); e != api.OK || s != test.want {
			t.Errorf("Rule(%+v) = %q, %v; want %q", test.r, s, e, test.want)
		}
	}
}

// P12.1 and P12.2: how long a text may be.

// sized returns rules of each kind whose text has so many bytes: from 3900 to 4002, so that texts of parts can be read.
func sized(bytes int) []api.Rule {
	x := func(count int) string { return strings.Repeat("x", count) }
	// selectors, decls and layers have texts with as many bytes as are left.
	selectors := func(left int) string {
		const each = 64
		count := (left - 2) / each
		return strings.Repeat("."+x(each-1), count) + "." + x(left-each*count-1)
	}
	decls := func(left int) string { return "b:" + x(left-len("b: ")) }
	layers := func(left int) [][]string {
		var l [][]string
		for ; left > 120; left -= 64 + len(", ") {
			l = append(l, name(x(64)))
		}
		return append(l, name(x(left/2), x(left-left/2-len("."))))
	}
	inner := func(left int) []api.Rule {
		half := left / 2
		return []api.Rule{style("a", decls(half-len("a {  }"))), style("a", decls(left-half-len(" a {  }")))}
	}
	const minWidth = "(min-width: 0px)"
	return []api.Rule{
		style(selectors(bytes-len(" {}")), ""),
		style(":is("+selectors(3800)+")", decls(bytes-3800-len(":is() {  }"))),
		style(selectors(1000), decls(bytes-1000-len(" {  }"))),
		style("a", decls(bytes-len("a {  }"))),
		style("a", "c:d;"+decls(bytes-len("a { c: d;  }"))),
		media("", inner(bytes-len("@media {  }"))...),
		media("x", wrap(2, bare(), style("a", decls(bytes-len("@media x { @layer { @layer { a {  } } } }"))))),
		media(minWidth+strings.Repeat("and "+minWidth, 99), inner(bytes-len("@media  {  }")-100*len(minWidth)-99*len(" and "))...),
		supports("(" + decls(bytes-len("@supports () {}")) + ")"),
		supports("f()", inner(bytes-len("@supports (unknown) {  }"))...),
		supports("not ("+decls(1000)+")", inner(bytes-1000-len("@supports not () {  }"))...),
		bare(inner(bytes - len("@layer {  }"))...),
		layer(name("x", "y"), inner(bytes-len("@layer x.y {  }"))...),
		names(layers(bytes - len("@layer ;"))...),
	}
}

func TestLongRules(t *testing.T) {
	for i, r := range sized(3900) {
		if s, e := round.Rule(r); e != api.OK || len(s) != 3900 {
			t.Fatalf("Rule %d has %d bytes, %v", i, len(s), e)
		}
	}
	for _, bytes := range []int{3999, mostText, mostText + 1, mostText + 2} {
		for i, r := range sized(bytes) {
			long := bytes > mostText
			s, e := round.Rule(r)
			if !long && (len(s) != bytes || e != api.OK) || long && (s != "" || e != api.ErrLong) {
				t.Errorf("Rule %d of %d bytes = %d bytes, %v", i, bytes, len(s), e)
			}
			if whole, f := round.Sheet(of(r)); whole != s || f != e {
				t.Errorf("Sheet of rule %d of %d bytes = %d bytes, %v", i, bytes, len(whole), f)
			}
			a := style("a", "")
			for _, l := range [][]api.Rule{{r}, {r, a}, {a, r}, {r, r}, {r, a, r}} {
				texts, f := round.Texts(of(l...))
				if f != e || long && len(texts) > 0 || !long && len(texts) != len(l) {
					t.Errorf("Texts of rule %d of %d bytes = %d, %v", i, bytes, len(texts), f)
				}
			}
		}
	}
}

// What is in a rule may be too long by itself.
func TestLongParts(t *testing.T) {
	a := style("a", "b:c")
	selectors, wide, decls, queries, terms := a, style("a", ""), a, media("screen", a), supports("f() or (a:b)", a)
	selectors.Selectors = slices.Repeat(style("."+strings.Repeat("x", 64), "").Selectors, mostRules)
	wide.Selectors[0].Parts[0].Simples = slices.Repeat(style(":is()", "").Selectors[0].Parts[0].Simples, 64)
	wide.Selectors[0].Parts = slices.Repeat(wide.Selectors[0].Parts, 64)
	wide.Selectors[0].Combs = slices.Repeat([]uint8{api.CombChild}, 63)
	decls.Decls = slices.Repeat(style("a", "b:"+strings.Repeat("x", 200)).Decls, 32)
	queries.Cond.List[0].List = slices.Repeat(media("(min-width:0)").Cond.List[0].List, 10000)
	terms.Cond.List = slices.Repeat(terms.Cond.List, 700)
	for i, r := range []api.Rule{
		selectors, wide, decls, queries, terms,
		names(slices.Repeat([][]string{name(strings.Repeat("\x01", 64))}, mostRules)...),
		layer(slices.Repeat(name(strings.Repeat("\x7f", 64)), 16), a),
	} {
		for _, r := range []api.Rule{r, media("", r), media("", a, r, a), wrap(3, bare(), r)} {
			if e := sheet.CheckRule(r); e != api.OK {
				t.Fatalf("CheckRule of %d: %v", i, e)
			}
			if s, e := round.Rule(r); s != "" || e != api.ErrLong {
				t.Errorf("Rule of %d = %d bytes, %v", i, len(s), e)
			}
			if s, e := round.Sheet(of(a, r)); s != "" || e != api.ErrLong {
				t.Errorf("Sheet of %d = %d bytes, %v", i, len(s), e)
			}
			if l, e := round.Texts(of(a, r)); len(l) > 0 || e != api.ErrLong {
				t.Errorf("Texts of %d = %d texts, %v", i, len(l), e)
			}
		}
	}
}

func TestLongSheets(t *testing.T) {
	a := style("a", "b:"+strings.Repeat("x", 100-len("a { b:  }")))
	last := func(bytes int) api.Rule { return style("a", "b:"+strings.Repeat("x", bytes-len("a { b:  }"))) }
	for _, count := range []int{1, 2, 38} {
		for _, bytes := range []int{3900, 3999, mostText, mostText + 1, mostText + 2, mostText + 50} {
			// There is one line end behind each rule but the last.
			l := append(many(a, count), last(bytes-101*count))
			s, e := round.Sheet(of(l...))
			if bytes <= mostText && (len(s) != bytes || e != api.OK) || bytes > mostText && (s != "" || e != api.ErrLong) {
				t.Errorf("Sheet of %d bytes = %d bytes, %v", bytes, len(s), e)
			}
			texts, e := round.Texts(of(l...))
			if e != api.OK || len(texts) != len(l) || len(strings.Join(texts, "\n")) != bytes {
				t.Errorf("Texts of a sheet of %d bytes = %d, %v", bytes, len(texts), e)
			}
		}
	}
	if l, e := round.Texts(of(many(a, mostRules)...)); e != api.OK || len(l) != mostRules {
		t.Errorf("Texts = %d, %v", len(l), e)
	}
	if s, e := round.Sheet(of(many(a, mostRules)...)); e != api.ErrLong || s != "" {
		t.Errorf("Sheet = %d bytes, %v", len(s), e)
	}
}

// P12.1 to P12.3: what is not valid.

// invalid returns rules that are not valid.
func invalid() []api.Rule {
	a := style("a", "b:c")
	noSelectors, badDecl, badCond, badLayer, noNames, badRules, more := a, style("a", "b:c"), media(""), layer(nil), names(), media("", a), bare()
	noSelectors.Selectors = nil
	badDecl.Decls[0].Name = "B"
	badCond.Cond.Kind = api.CondAny
	badRules.Rules = []api.Rule{a, {}}
	more.Decls = a.Decls
	return []api.Rule{
		{}, {Kind: 6}, noSelectors, badDecl, badCond, badLayer, noNames, badRules, more,
		media("", many(a, mostRules)...),
		wrap(16, media(""), a),
		wrap(16, bare(), bare()),
		names(name("x", "")),
		names(slices.Repeat([][]string{name("x")}, mostRules+1)...),
	}
}

// checkBad checks that all functions find an error in a sheet.
func checkBad(t *testing.T, x api.Sheet) {
	t.Helper()
	if sheet.Check(x) != api.ErrBad {
		t.Fatalf("%+v is valid", x)
	}
	if s, e := round.Sheet(x); s != "" || e != api.ErrBad {
		t.Errorf("Sheet(%+v) = %q, %v", x, s, e)
	}
	if l, e := round.Texts(x); len(l) > 0 || e != api.ErrBad {
		t.Errorf("Texts(%+v) = %q, %v", x, l, e)
	}
	for _, at := range []int{-1, 0, 1, len(x.Rules), 1000} {
		for _, r := range []api.Rule{style("a", ""), {}} {
			if y, e := round.Insert(x, r, at); len(y.Rules) > 0 || e != api.ErrBad {
				t.Errorf("Insert(%+v, %+v, %d) = %+v, %v", x, r, at, y, e)
			}
		}
		if y, e := round.Delete(x, at); len(y.Rules) > 0 || e != api.ErrBad {
			t.Errorf("Delete(%+v, %d) = %+v, %v", x, at, y, e)
		}
	}
}

func TestErrors(t *testing.T) {
	a := style("a", "b:c")
	long := sized(mostText + 1)[0]
	for _, r := range invalid() {
		if s, e := round.Rule(r); s != "" || e != api.ErrBad {
			t.Errorf("Rule(%+v) = %q, %v", r, s, e)
		}
		checkBad(t, of(r))
		checkBad(t, of(a, r))
		checkBad(t, of(r, a))
		checkBad(t, of(long, r))
		checkBad(t, of(media("", a, r)))
		for _, x := range []api.Sheet{of(), of(a), of(many(a, mostRules)...), of(long)} {
			for _, at := range []int{-1, 0, 1, 1000} {
				if y, e := round.Insert(x, r, at); len(y.Rules) > 0 || e != api.ErrBad {
					t.Errorf("Insert(%+v, %+v, %d) = %+v, %v", x, r, at, y, e)
				}
			}
		}
	}
	checkBad(t, of(many(a, mostRules+1)...))
	checkBad(t, of(media("", many(a, mostRules-2)...), a, a))
}

// P12.3

func TestInsertAndDelete(t *testing.T) {
	rules := []api.Rule{style("a", "b:c"), media("", style("b", "")), layer(name("x"), bare(), bare()), names(name("x"), name("y")), supports("f()")}
	for count := range len(rules) {
		x, r := of(rules[:count]...), rules[count]
		for at := -2; at <= count+2; at++ {
			y, e := round.Insert(x, r, at)
			if at < 0 || at > count {
				if e != api.ErrArg || len(y.Rules) > 0 {
					t.Errorf("Insert into %d at %d = %+v, %v", count, at, y, e)
				}
			} else if want := slices.Insert(slices.Clone(x.Rules), at, r); e != api.OK || !sameSheet(y, of(want...)) {
				t.Errorf("Insert into %d at %d = %+v, %v; want %+v", count, at, y, e, want)
			}
			y, e = round.Delete(x, at)
			if at < 0 || at >= count {
				if e != api.ErrArg || len(y.Rules) > 0 {
					t.Errorf("Delete from %d at %d = %+v, %v", count, at, y, e)
				}
			} else if want := slices.Delete(slices.Clone(x.Rules), at, at+1); e != api.OK || !sameSheet(y, of(want...)) {
				t.Errorf("Delete from %d at %d = %+v, %v; want %+v", count, at, y, e, want)
			}
		}
		for _, at := range []int{-1 << 63, -1 << 32, 1 << 32, 1<<63 - 1} {
			if y, e := round.Insert(x, r, at); e != api.ErrArg || len(y.Rules) > 0 {
				t.Errorf("Insert at %d = %+v, %v", at, y, e)
			}
			if y, e := round.Delete(x, at); e != api.ErrArg || len(y.Rules) > 0 {
				t.Errorf("Delete at %d = %+v, %v", at, y, e)
			}
		}
	}
}

func TestRoom(t *testing.T) {
	a, b := style("a", ""), style("b", "")
	for _, test := range []struct {
		x    api.Sheet
		r    api.Rule
		fits bool
	}{
		{of(), media("", many(a, 63)...), true},
		{of(a), media("", many(a, 62)...), true},
		{of(a), media("", many(a, 63)...), false},
		{of(many(a, 63)...), b, true},
		{of(many(a, 64)...), b, false},
		{of(many(a, 63)...), names(name("x"), name("y")), true},
		{of(many(a, 64)...), names(name("x")), false},
		{of(many(a, 63)...), media("", b), false},
		{of(many(a, 62)...), media("", b), true},
		{of(many(a, 62)...), bare(bare(b)), false},
		{of(many(a, 61)...), bare(bare(b)), true},
		{of(media("", many(a, 62)...)), b, true},
		{of(media("", many(a, 63)...)), b, false},
		{of(wrap(10, bare(), media("", many(a, 50)...))), wrap(2, media(""), b), true},
		{of(wrap(10, bare(), media("", many(a, 51)...))), wrap(2, media(""), b), false},
		{of(wrap(15, bare(), a)), wrap(15, bare(), b), true},
		{of(many(bare(a), 32)...), b, false},
		{of(many(bare(a), 31)...), bare(a), true},
		{of(many(bare(a), 31)...), bare(a, a), false},
	} {
		for _, at := range []int{0, len(test.x.Rules) / 2, len(test.x.Rules)} {
			y, e := round.Insert(test.x, test.r, at)
			want := of(slices.Insert(slices.Clone(test.x.Rules), at, test.r)...)
			switch {
			case test.fits && (e != api.OK || !sameSheet(y, want) || sheet.Check(y) != api.OK):
				t.Errorf("Insert(%+v, %+v, %d) = %+v, %v", test.x, test.r, at, y, e)
			case !test.fits && (e != api.ErrFull || len(y.Rules) > 0):
				t.Errorf("Insert(%+v, %+v, %d) = %+v, %v; want ErrFull", test.x, test.r, at, y, e)
			}
		}
		// That the index is none is said first.
		for _, at := range []int{-1, len(test.x.Rules) + 1} {
			if y, e := round.Insert(test.x, test.r, at); e != api.ErrArg || len(y.Rules) > 0 {
				t.Errorf("Insert(%+v, %+v, %d) = %+v, %v; want ErrArg", test.x, test.r, at, y, e)
			}
		}
	}
	// A sheet may be too long to be written, and edited all the same.
	long := sized(mostText + 1)[1]
	x, e := round.Insert(of(long, a), long, 1)
	if e != api.OK || !sameSheet(x, of(long, long, a)) {
		t.Errorf("Insert of a long rule: %v", e)
	}
	if x, e = round.Delete(x, 0); e != api.OK || !sameSheet(x, of(long, a)) {
		t.Errorf("Delete of a long rule: %v", e)
	}
}

// R7: rules may be in themselves, and so may what is in them.
func TestEnds(t *testing.T) {
	a := style("a", "b:c")
	looped := many(media(""), 3)
	looped[1].Rules = looped
	values := valuesOf("()")
	values[0].List = values
	loopedDecl := a
	loopedDecl.Decls = []api.Decl{{Name: "b", Value: values}}
	selectors := must(seltext.Read(":is(a)"))
	selectors[0].Parts[0].Simples[0].List = selectors
	loopedSelector := a
	loopedSelector.Selectors = selectors
	conds := []api.Cond{{Kind: api.CondNot}}
	conds[0].List = conds
	loopedCond := supports("f()", a)
	loopedCond.Cond = conds[0]
	shared := media("", a)
	for range 15 {
		shared = media("", many(shared, 1000)...)
	}
	for _, r := range []api.Rule{looped[1], loopedDecl, loopedSelector, loopedCond, shared} {
		if s, e := round.Rule(r); s != "" || e != api.ErrBad {
			t.Errorf("Rule = %q, %v", s, e)
		}
		if _, e := round.Sheet(of(a, r)); e != api.ErrBad {
			t.Error(e)
		}
		if _, e := round.Texts(of(a, r)); e != api.ErrBad {
			t.Error(e)
		}
		if _, e := round.Insert(of(a), r, 0); e != api.ErrBad {
			t.Error(e)
		}
		if _, e := round.Delete(of(a, r), 0); e != api.ErrBad {
			t.Error(e)
		}
	}
}
