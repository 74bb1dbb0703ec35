package sheet_test

import (
	"fmt"
	"math/rand"
	"reflect"
	"regexp"
	"slices"
	"strings"
	"testing"

	"vitrine/api"
	"vitrine/cond"
	"vitrine/decl"
	"vitrine/glue"
	"vitrine/nest"
	"vitrine/seltext"
	"vitrine/sheet"
	"vitrine/token"
)

// The model of reading: each value is a letter, and constructs and layers' names are patterns of letters.

var (
	topForm    = regexp.MustCompile(`a[^;{]*[;{]?|\{|[^aso{][^{]*\{?`)
	blockForm  = regexp.MustCompile(`a[^;{]*[;{]?|\{|[^as{][^{]*\{?`)
	layersForm = regexp.MustCompile(`^s*i(di)*s*(,s*i(di)*s*)*$`)
)

func letters(v []api.Value) string {
	const byKind = "?i(ah''((?555soo:;,[](){}"
	var b strings.Builder
	for _, x := range v {
		if x.Token.Kind == api.TokDelim && x.Token.Text == "." {
			b.WriteByte('d')
		} else {
			b.WriteByte(byKind[x.Token.Kind])
		}
	}
	return b.String()
}

func modelLower(s string) string {
	return strings.Map(func(r rune) rune {
		if 'A' <= r && r <= 'Z' {
			r += 'a' - 'A'
		}
		return r
	}, s)
}

// modelConstructs returns the values of each construct.
func modelConstructs(v []api.Value, form *regexp.Regexp) [][]api.Value {
	var l [][]api.Value
	for _, at := range form.FindAllStringIndex(letters(v), -1) {
		l = append(l, v[at[0]:at[1]])
	}
	return l
}

// modelRules returns the rules of values, as if there were room for all.
func modelRules(v []api.Value, form *regexp.Regexp) []api.Rule {
	var l []api.Rule
	for _, c := range modelConstructs(v, form) {
		if r, ok := modelRule(c); ok {
			l = append(l, r)
		}
	}
	return l
}

func modelRule(c []api.Value) (api.Rule, bool) {
	last := c[len(c)-1]
	hasBlock := last.Token.Kind == api.TokOpenCurly
	ended := hasBlock || last.Token.Kind == api.TokSemicolon
	if c[0].Token.Kind != api.TokAt {
		l, e := seltext.Of(c[:len(c)-1])
		decls, f := decl.Of(last.List)
		return api.Rule{Kind: api.RuleStyle, Selectors: l, Decls: decls}, hasBlock && e == api.OK && f == api.OK
	}
	prelude := c[1:]
	if ended {
		prelude = c[1 : len(c)-1]
	}
	inner := func() []api.Rule { return modelRules(last.List, blockForm) }
	switch modelLower(c[0].Token.Text) {
	case "media":
		x, e := cond.Media(prelude)
		return api.Rule{Kind: api.RuleMedia, Cond: x, Rules: inner()}, hasBlock && e == api.OK
	case "supports":
		x, e := cond.Supports(prelude)
		return api.Rule{Kind: api.RuleSupports, Cond: x, Rules: inner()}, hasBlock && e == api.OK
	case "layer":
		names, ok := modelNames(prelude)
		if hasBlock {
			empty := strings.Trim(letters(prelude), "s") == ""
			return api.Rule{Kind: api.RuleLayer, Names: names, Rules: inner()}, empty || ok && len(names) == 1
		}
		return api.Rule{Kind: api.RuleNames, Names: names}, ok && len(names) <= 64
	}
	return api.Rule{}, false
}

func modelNames(v []api.Value) ([][]string, bool) {
	s := letters(v)
	if !layersForm.MatchString(s) {
		return nil, false
	}
	l := [][]string{nil}
	for i := range v {
		switch s[i] {
		case ',':
			l = append(l, nil)
		case 'i':
			l[len(l)-1] = append(l[len(l)-1], v[i].Token.Text)
		}
	}
	for _, name := range l {
		if !modelName(name) {
			return nil, false
		}
	}
	return l, true
}

func modelName(name []string) bool {
	return 1 <= len(name) && len(name) <= 16 && !slices.ContainsFunc(name, func(s string) bool {
		return s == "" || len(s) > 64 || strings.Contains(s, "\x00")
	})
}

// cut returns what is left of rules with room for only so many in all.
func cut(l []api.Rule, room int) []api.Rule {
	n := 0
	var from func(l []api.Rule) []api.Rule
	from = func(l []api.Rule) []api.Rule {
		var kept []api.Rule
		for _, r := range l {
			n++
			if n > room {
				break
			}
			r.Rules = from(r.Rules)
			kept = append(kept, r)
		}
		return kept
	}
	return from(l)
}

func modelRead(s string) ([]api.Rule, int, api.Errno) {
	tokens, e := token.Tokens(s)
	if e != api.OK {
		return nil, 0, e
	}
	v, e := nest.Parse(tokens)
	if e != api.OK {
		return nil, 0, e
	}
	return cut(modelRules(v, topForm), 64), len(modelConstructs(v, topForm)), api.OK
}

// eachShort calls f with all texts of at most so many pieces.
func eachShort(most int, pieces []string, f func(s string)) {
	var grow func(s string, left int)
	grow = func(s string, left int) {
		f(s)
		if left == 0 {
			return
		}
		for _, p := range pieces {
			grow(s+p, left-1)
		}
	}
	grow("", most)
}

// pickers makes random texts and rules.
type pickers struct{ *rand.Rand }

func random(seed int64) pickers { return pickers{rand.New(rand.NewSource(seed))} }

func (r pickers) of(s ...string) string { return s[r.Intn(len(s))] }

func (r pickers) gap() string { return r.of("", "", "", " ", "\n", "/**/", " /* {;} */ ") }

func (r pickers) junk() string {
	return r.of("5", ";", "}", "]", ")", "(;{})", "[{a{}}]", "f({})", "a", ":", "!", "@x", "@media", "@layer y", "-->", "<!--", "'\n", "'}'", ",", ".", "{}", "{a:b}")
}

func (r pickers) selectors() string {
	s := r.of("a", "B", ".c", "#d", "[e]", ":root", "*", ":is(a, 5, [x])", ":nth-child(2n of a)", ":first-child", "a > b", "a,b", "a , .c", ":hovered", "a,", ":not([a]:is(b))", "::x")
	if r.Intn(3) == 0 {
		s += r.of(" ", ",", ">", "+") + r.selectors()
	}
	return s
}

func (r pickers) decls() string {
	s := ""
	for r.Intn(3) > 0 {
		s += r.gap() + r.of("a", "B", "--c", "5", "d") + r.of(":", ":", " : ", "") + r.of("x", "x y", "f(1;2)", "{a;b}", "", "x)", "'y'", "[(a)]") + r.of("", "", "!important", " ! IMPORTANT ", "!") + r.of(";", ";", ";;", "", ",")
	}
	return s
}

func (r pickers) names() string {
	s := r.gap() + r.of("x", "Y", "z-", `\.`, "5", "x y", "") + r.of("", "", ".x", ".x.y", ".", ".5") + r.gap()
	if r.Intn(3) == 0 {
		s += "," + r.names()
	}
	return s
}

func (r pickers) conditions() string {
	return r.of(" screen", "", " ", " print, screen and (min-width:5px)", "(max-width:1px)", " a b", " (a:b)", "(a:b)", " f() and ((a:[b]) or (c))", " not (a:b) and (c:d)", " not (a:f(b))", " x", " ;", " (;)", " {}", " (a:b) or (b:c)")
}

func (r pickers) construct(depth int) string {
	block := func(s string) string {
		return r.gap() + "{" + s + r.of("}", "}", "}", "}", "}", "}", "}", "}", "}", "")
	}
	switch n := r.Intn(10); {
	case n == 0:
		return r.junk()
	case n == 1:
		return r.of("@import 'x'", "@x", "@x(;{})", "@charset 'a'") + r.gap() + r.of(";", ";", "{a{}}", "")
	case n == 2:
		return r.of("@layer", "@Layer") + " " + r.names() + r.of(";", ";", ";", "", "}", "x{}")
	case n < 5 && depth > 0:
		return r.of("@media", "@media", "@supports", "@SUPPORTS", "@medium") + r.conditions() + block(r.rules(depth-1))
	case n < 7 && depth > 0:
		return "@layer" + r.of(" ", "/**/") + r.names() + block(r.rules(depth-1))
	}
	return r.selectors() + block(r.decls())
}

func (r pickers) rules(depth int) string {
	s := r.gap()
	for r.Intn(4) > 0 {
		s += r.construct(depth) + r.gap()
		if r.Intn(20) == 0 {
			s += strings.Repeat(r.of("a{}", "a{}", "@layer x;", "5{}"), r.Intn(80))
		}
	}
	return s
}

func (r pickers) sheet() string {
	s := r.of("", "", "<!--") + r.rules(4)
	for r.Intn(3) == 0 {
		s += r.of("", "", "-->") + r.rules(4)
	}
	return s
}

// eachText calls f with many texts that have rules, or what is almost some.
func eachText(f func(r pickers, s string)) {
	r := random(11)
	for range 5000 {
		if s := r.sheet(); len(s) <= 4000 {
			f(r, s)
		}
	}
}

// P11.2 and P11.3.

func TestReadingIsLikeTheModel(t *testing.T) {
	said := map[api.Errno]int{}
	counts := map[string]int{}
	check := func(s string) {
		want, constructs, e := modelRead(s)
		x, f := sheet.Read(s)
		if e != f || !sameRules(x.Rules, want) {
			t.Fatalf("Read(%q) = %+v, %v; want %+v, %v", s, x, f, want, e)
		}
		var one api.Rule
		switch {
		case e == api.OK && (constructs != 1 || len(want) != 1):
			e = api.ErrForm
		case e == api.OK:
			one = want[0]
		}
		if r, f := sheet.Rule(s); f != e || !same(r, one) {
			t.Fatalf("Rule(%q) = %+v, %v; want %+v, %v", s, r, f, one, e)
		}
		said[e]++
		switch n := count(want...); {
		case n < 3:
			counts[[]string{"none", "one", "two"}[n]]++
		case n < 64:
			counts["some"]++
		default:
			counts["full"]++
		}
	}
	eachShort(5, []string{"a", "{", "}", ";", " ", "@media/**/", "@Layer x", "-->", ","}, check)
	eachShort(5, []string{"@layer/**/", "x", ".", ",", " ", ";", "{}", "5", "/**/y"}, check)
	eachShort(5, []string{"@Supports/**/", "@media/**/", "(a:b)", "{", "}", "f()", ";", "b", " "}, check)
	eachShort(6, []string{"@layer{", "}", "b{}", "<!--", ";", "@layer y"}, check)
	eachText(func(r pickers, s string) { check(s) })
	if said[api.OK] < 10000 || said[api.ErrForm] < 10000 || counts["none"] < 10000 || counts["one"] < 10000 || counts["two"] < 5000 || counts["some"] < 2000 || counts["full"] < 50 {
		t.Error(said, counts)
	}
}

// P11.1: what is valid, with the depth that the text of a rule has.

// modelText returns the text of a rule, as the depth goes by it.
func modelText(r api.Rule) string {
	inner := []string{}
	for _, x := range r.Rules {
		inner = append(inner, modelText(x))
	}
	group := "{ " + strings.Join(inner, " ") + " }"
	layers := []string{}
	for _, l := range r.Names {
		parts := []string{}
		for _, s := range l {
			parts = append(parts, must(glue.Name(s)))
		}
		layers = append(layers, strings.Join(parts, "."))
	}
	switch r.Kind {
	case api.RuleStyle:
		return must(seltext.Text(r.Selectors)) + " { " + must(decl.List(r.Decls)) + " }"
	case api.RuleMedia:
		return "@media " + must(cond.Text(r.Cond)) + " " + group
	case api.RuleSupports:
		return "@supports " + must(cond.Text(r.Cond)) + " " + group
	case api.RuleLayer:
		return "@layer " + strings.Join(layers, "") + " " + group
	}
	return "@layer " + strings.Join(layers, ", ") + ";"
}

// depthOf returns how deep the blocks of a text are.
func depthOf(s string) int {
	depth, deepest := 0, 0
	for _, x := range must(token.Tokens(s)) {
		switch x.Kind {
		case api.TokFunction, api.TokOpenParen, api.TokOpenSquare, api.TokOpenCurly:
			depth++
			deepest = max(deepest, depth)
		case api.TokCloseParen, api.TokCloseSquare, api.TokCloseCurly:
			depth--
		}
	}
	return deepest
}

// modelValid reports whether a rule is valid, wherever it stands.
func modelValid(r api.Rule) bool {
	rest := r
	ok := false
	switch r.Kind {
	case api.RuleStyle:
		rest.Selectors, rest.Decls = nil, nil
		ok = seltext.Check(r.Selectors) == api.OK && len(r.Decls) <= 32 && !slices.ContainsFunc(r.Decls, func(d api.Decl) bool { return decl.Check(d) != api.OK })
	case api.RuleMedia:
		rest.Cond, rest.Rules = api.Cond{}, nil
		ok = cond.CheckMedia(r.Cond) == api.OK
	case api.RuleSupports:
		rest.Cond, rest.Rules = api.Cond{}, nil
		ok = cond.CheckSupports(r.Cond) == api.OK
	case api.RuleLayer:
		rest.Names, rest.Rules = nil, nil
		ok = len(r.Names) <= 1
	case api.RuleNames:
		rest.Names = nil
		ok = 1 <= len(r.Names) && len(r.Names) <= 64
	}
	return ok && same(rest, api.Rule{Kind: r.Kind}) &&
		!slices.ContainsFunc(r.Names, func(l []string) bool { return !modelName(l) }) &&
		!slices.ContainsFunc(r.Rules, func(x api.Rule) bool { return !modelValid(x) })
}

func modelRulesValid(l []api.Rule) bool {
	return count(l...) <= 64 && !slices.ContainsFunc(l, func(r api.Rule) bool { return !modelValid(r) || depthOf(modelText(r)) > 16 })
}

func (r pickers) rule(depth int) api.Rule {
	n := r.Intn(8)
	if depth == 0 && n > 2 {
		n = r.Intn(3)
	}
	switch n {
	case 0:
		return names(r.name(), r.name())
	case 1:
		return names(r.name())
	case 2:
		s := r.of("a", "a, b", "a > .b", "#c", "[d]", ":is(a)", ":is([a])", ":is(:not([b], :first-child))", ":is(:is(:is()))", ":nth-child(3)", ":nth-child(1 of [a])", ":is(:where(:nth-last-child(1)))", ":has(> [a])", "a, :has(:not(:last-child), b), c")
		return style(s, r.of("", "b:c", "b:(c);d:e", "b:c!important;--d:", "b:f([{x}])", "b:"+blocks(r.Intn(7))))
	}
	var l []api.Rule
	for range r.Intn(4) {
		l = append(l, r.rule(depth-1))
	}
	outer := []api.Rule{
		media(r.of("", "screen", "not print, (min-width:5px)")),
		supports(r.of("(a:b)", "f()", "not (a:b)", "f() and (not (a:"+blocks(r.Intn(5))+"))", "not (not (not (a:b)))", "(a:"+blocks(r.Intn(9))+") or f()")),
		bare(),
		layer(r.name()),
	}[r.Intn(4)]
	if r.Intn(4) == 0 {
		return in(1+r.Intn(8), outer, l...)
	}
	outer.Rules = l
	return outer
}

func (r pickers) name() []string {
	l := name(r.of("x", "Y", "a b", "é", "5", "-", "."))
	for r.Intn(3) == 0 {
		l = append(l, r.of("x", "y", "media", strings.Repeat("z", 64)))
	}
	return l
}

// eachSheet calls f with many lists of rules, most of them valid, which have a text.
func eachSheet(f func(r pickers, l []api.Rule)) {
	r := random(12)
	for range 5000 {
		var l []api.Rule
		for range r.Intn(5) {
			x := r.rule(4)
			if r.Intn(6) == 0 {
				// Among others there have to be some that are just as deep as they may be.
				x = in(1+max(0, 15-depthOf(modelText(x))+r.Intn(2)), media(""), x)
			}
			l = append(l, x)
		}
		if n := count(l...); r.Intn(20) == 0 && n < 64 {
			l = append(l, many(names(name("x")), 64-n+r.Intn(2))...)
		}
		if n, text := count(l...), modelSheet(l); len(text) < 4000 && n < 70 {
			f(r, l)
		}
	}
}

func modelSheet(l []api.Rule) string {
	var texts []string
	for _, r := range l {
		texts = append(texts, modelText(r))
	}
	return strings.Join(texts, "\n")
}

// changed returns a copy of rules in which the one with a number is changed.
func changed(l []api.Rule, at int, change func(r *api.Rule)) []api.Rule {
	l = slices.Clone(l)
	for i := range l {
		if at == 0 {
			change(&l[i])
			break
		}
		if n := count(l[i]); at >= n {
			at -= n
			continue
		}
		l[i].Rules = changed(l[i].Rules, at-1, change)
		break
	}
	return l
}

func (r pickers) spoil(l []api.Rule) []api.Rule {
	return changed(l, r.Intn(max(count(l...), 1)), func(x *api.Rule) {
		switch r.Intn(10) {
		case 0:
			x.Kind = uint8(r.Intn(7))
		case 1:
			x.Selectors = append(slices.Clip(x.Selectors), api.Complex{})
		case 2:
			x.Selectors = style("a", "").Selectors
		case 3:
			x.Decls = append(slices.Clip(x.Decls), []api.Decl{{}, {Name: "a", Value: valuesOf("b")}}[r.Intn(2)])
		case 4:
			x.Cond = []api.Cond{{}, media("").Cond, supports("f()").Cond, {Kind: api.CondMedia, Name: "a"}}[r.Intn(4)]
		case 5:
			x.Names = append(slices.Clip(x.Names), []([]string){nil, name("x"), name("\x00"), name("x", "y")}[r.Intn(4)])
		case 6:
			x.Names = nil
		case 7:
			x.Rules = append(slices.Clip(x.Rules), []api.Rule{{}, style("a", ""), names(name("x"))}[r.Intn(3)])
		case 8:
			*x = media("", *x)
		case 9:
			x.Rules, x.Selectors, x.Decls = nil, nil, nil
		}
	})
}

func TestChecksAreLikeTheModel(t *testing.T) {
	said := map[bool]int{}
	counts := map[int]int{}
	eachSheet(func(r pickers, l []api.Rule) {
		for range 4 {
			valid := modelRulesValid(l)
			said[valid]++
			counts[count(l...)]++
			n, e := sheet.Count(api.Sheet{Rules: l})
			if e != wanted(valid) || e != sheet.Check(api.Sheet{Rules: l}) || valid && n != count(l...) || !valid && n != 0 {
				t.Fatalf("Count(%+v) = %d, %v; want %v", l, n, e, valid)
			}
			for _, x := range l {
				if e := sheet.CheckRule(x); e != wanted(modelRulesValid(rules(x))) {
					t.Fatalf("CheckRule(%+v) = %v", x, e)
				}
			}
			l = r.spoil(l)
		}
	})
	if said[true] < 5000 || said[false] < 5000 || counts[64] < 20 || counts[65] < 20 {
		t.Error(said, counts)
	}
}

// P11.4

func TestWhatIsWrittenIsReadAsTheSame(t *testing.T) {
	deepest := 0
	eachSheet(func(r pickers, l []api.Rule) {
		if s := modelSheet(l); modelRulesValid(l) && len(must(token.Tokens(s))) <= 1500 {
			checkRead(t, s, l...)
			deepest = max(deepest, depthOf(s))
		}
	})
	if deepest != 16 {
		t.Error(deepest)
	}
}

func TestWhatIsReadIsValid(t *testing.T) {
	eachText(func(r pickers, s string) {
		x, e := sheet.Read(s)
		if e != api.OK {
			return
		}
		n, e := sheet.Count(x)
		if e != api.OK || n != count(x.Rules...) || n > 64 || sheet.Check(x) != api.OK {
			t.Fatalf("Count of %q = %d, %v", s, n, e)
		}
		for _, one := range x.Rules {
			if e := sheet.CheckRule(one); e != api.OK {
				t.Fatalf("CheckRule(%+v) of %q = %v", one, s, e)
			}
		}
		if one, e := sheet.Rule(s); e == api.OK && (len(x.Rules) != 1 || !same(x.Rules[0], one)) {
			t.Fatalf("Rule(%q) = %+v", s, one)
		}
	})
}

// isWhole reports whether a text ends with a curly block that is closed.
func isWhole(s string) bool {
	tokens, e := token.Tokens(s)
	if e != api.OK || len(tokens) == 0 {
		return false
	}
	v, e := nest.Parse(tokens)
	flat, _ := nest.Flat(v)
	return e == api.OK && strings.HasSuffix(s, "}") && len(flat) == len(tokens) && v[len(v)-1].Token.Kind == api.TokOpenCurly
}

func TestTextsBehindEachOther(t *testing.T) {
	joined, full := 0, 0
	eachText(func(r pickers, last string) {
		first, middle := r.sheet()+r.of("{}", "a{}", "@media{b{}}"), r.of("a{", "5{", "@x{", "@layer y{")+r.rules(2)+"}"
		if !isWhole(first) || !isWhole(middle) {
			return
		}
		all, e := sheet.Read(first + middle + last)
		if e != api.OK {
			return
		}
		want := cut(slices.Concat(read(t, first), read(t, middle), read(t, last)), 64)
		if !sameRules(all.Rules, want) {
			t.Fatalf("Read(%q) = %+v; want %+v", []string{first, middle, last}, all, want)
		}
		joined++
		full += count(want...) / 64
	})
	if joined < 1000 || full < 50 {
		t.Error(joined, full)
	}
}

func TestBadRulesAreDropped(t *testing.T) {
	eachText(func(r pickers, last string) {
		first := r.sheet() + "a{}"
		bad := r.of("5{a{}}", "{}", "a,{b:c}", "@x{"+strings.Repeat("a{}", 70)+"}", "@x;", "@media;", "@layer 5;", "@supports x{a{}}", "@layer x,y{a{}}", ";a{}", "@layer;", " ", "<!--", "/*a{}*/")
		all, e := sheet.Read(first + bad + last)
		without, f := sheet.Read(first + last)
		if e == api.OK && f == api.OK && isWhole(first) && !sameRules(all.Rules, without.Rules) {
			t.Fatalf("Read(%q) = %+v; want %+v", []string{first, bad, last}, all, without)
		}
	})
}

func TestRulesInABlockAreThoseOfWhatIsInIt(t *testing.T) {
	seen := 0
	eachText(func(r pickers, s string) {
		s = strings.NewReplacer("<!--", " ", "-->", " ").Replace(s) + "{}"
		own, e := sheet.Read(s)
		// A block has no closer of its own in it.
		if e != api.OK || !isWhole(s) || slices.ContainsFunc(valuesOf(s), func(x api.Value) bool { return x.Token.Kind == api.TokCloseCurly }) {
			return
		}
		for _, outer := range []string{"@media", "@layer x.y ", "@supports(a:b)", "a{b:c}@media print"} {
			all, e := sheet.Read(outer + "{" + s + "}" + "z{}@layer x;")
			if e != api.OK || count(own.Rules...) > 60 {
				return
			}
			last := len(all.Rules) - 3
			if got := all.Rules[last].Rules; !sameRules(got, own.Rules) || !sameRules(all.Rules[last+1:], rules(style("z", ""), names(name("x")))) {
				t.Fatalf("Read of %q in %q = %+v; want %+v", s, outer, got, own)
			}
			seen++
		}
	})
	if seen < 2000 {
		t.Error(seen)
	}
}

// P1: arguments are only read, results share no memory, and nothing is kept.

// eachList calls f with all slices that are in a value.
func eachList(v reflect.Value, f func(l reflect.Value)) {
	switch v.Kind() {
	case reflect.Struct:
		for i := range v.NumField() {
			eachList(v.Field(i), f)
		}
	case reflect.Slice:
		f(v)
		for i := range v.Len() {
			eachList(v.Index(i), f)
		}
	}
}

// shareMemory reports whether lists in some values have memory in common.
func shareMemory(all ...any) bool {
	// An extent is from where to where the memory of a list goes.
	var extents [][2]uintptr
	for _, x := range all {
		eachList(reflect.ValueOf(x), func(l reflect.Value) {
			if l.Cap() > 0 {
				extents = append(extents, [2]uintptr{l.Pointer(), l.Pointer() + uintptr(l.Cap())*l.Type().Elem().Size()})
			}
		})
	}
	slices.SortFunc(extents, func(a, b [2]uintptr) int { return slices.Compare(a[:], b[:]) })
	for i := range extents {
		if i > 0 && extents[i-1][1] > extents[i][0] {
			return true
		}
	}
	return false
}

func TestResultsShareNoMemory(t *testing.T) {
	eachText(func(r pickers, s string) {
		x, e := sheet.Read(s)
		again, _ := sheet.Read(s)
		one, f := sheet.Rule(s)
		if shareMemory(x, again, one) {
			t.Fatalf("Read(%q) has lists that share memory", s)
		}
		if want, _, g := modelRead(s); e != g || !sameRules(again.Rules, want) || f == api.OK && !same(one, want[0]) {
			t.Fatalf("Read(%q) = %+v, %v; and then %+v", s, x, e, again)
		}
	})
}

// roomy returns a copy of a value whose lists have something between their length and their capacity.
func roomy(v reflect.Value) reflect.Value {
	c := reflect.New(v.Type()).Elem()
	switch v.Kind() {
	case reflect.Struct:
		for i := range v.NumField() {
			c.Field(i).Set(roomy(v.Field(i)))
		}
	case reflect.Slice:
		c.Set(reflect.MakeSlice(v.Type(), v.Len()+2, v.Len()+2))
		for i := range v.Len() {
			c.Index(i).Set(roomy(v.Index(i)))
		}
		if v.Len() > 0 {
			c.Index(v.Len()).Set(c.Index(0))
		}
		c.Set(c.Slice(0, v.Len()))
	default:
		c.Set(v)
	}
	return c
}

// dump tells all of a value, with what is between the length and the capacity of its lists.
func dump(v reflect.Value) string {
	var b strings.Builder
	fmt.Fprintf(&b, "%+v", v.Interface())
	eachList(v, func(l reflect.Value) { fmt.Fprintf(&b, " %+v", l.Slice(0, l.Cap()).Interface()) })
	return b.String()
}

func TestAskingOnlyReads(t *testing.T) {
	eachSheet(func(r pickers, l []api.Rule) {
		if r.Intn(8) > 0 {
			return
		}
		x := roomy(reflect.ValueOf(api.Sheet{Rules: l})).Interface().(api.Sheet)
		before := dump(reflect.ValueOf(x))
		n, e := sheet.Count(x)
		f := sheet.Check(x)
		for _, one := range x.Rules {
			sheet.CheckRule(one)
		}
		if after := dump(reflect.ValueOf(x)); after != before {
			t.Fatalf("%s became %s", before, after)
		}
		n2, e2 := sheet.Count(api.Sheet{Rules: l})
		if n != n2 || e != e2 || e != f {
			t.Fatalf("Count(%+v) = %d, %v; and then %d, %v", l, n, e, n2, e2)
		}
	})
}

// R7: no text makes it panic, or go on for ever.

func TestAnyBytes(t *testing.T) {
	r := random(13)
	for range 20000 {
		var b []byte
		for range r.Intn(40) {
			b = append(b, r.of("a", "{", "}", "(", ")", "[", "]", ";", ":", ",", ".", "@media", "@layer", "@supports", " ", "\\", "\x00", "\r\n", "'", "/*", "*/", "<!--", "-->", "\xff", "url(", "5", "!", "#", string([]byte{byte(r.Intn(256))}))...)
		}
		s := string(b)
		want, _, e := modelRead(s)
		x, f := sheet.Read(s)
		if e != f || !sameRules(x.Rules, want) || sheet.Check(x) != api.OK {
			t.Fatalf("Read(%q) = %+v, %v; want %+v, %v", s, x, f, want, e)
		}
	}
}
