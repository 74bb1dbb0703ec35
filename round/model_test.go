package round_test

import (
	"fmt"
	"math/rand"
	"reflect"
	"slices"
	"strings"
	"testing"

	"vitrine/api"
	"vitrine/cond"
	"vitrine/decl"
	"vitrine/glue"
	"vitrine/nest"
	"vitrine/round"
	"vitrine/seltext"
	"vitrine/sheet"
	"vitrine/token"
)

// The model of texts: what lower layers write, and the patterns of the chapter around it. It may be longer than a text may be.

func modelRule(r api.Rule) string {
	text, blank := must(modelCondition(r.Cond)), ""
	if text != "" {
		blank = " "
	}
	var layers []string
	for _, l := range r.Names {
		layers = append(layers, modelLayer(l))
	}
	switch r.Kind {
	case api.RuleStyle:
		text := must(seltext.Text(r.Selectors)) + " { "
		for i, d := range r.Decls {
			text += strings.Repeat("; ", min(i, 1)) + must(decl.Text(d))
		}
		return strings.Replace(text+" }", " {  }", " {}", 1-min(len(r.Decls), 1))
	case api.RuleMedia:
		return "@media " + text + blank + modelGroup(r.Rules)
	case api.RuleSupports:
		return "@supports " + text + blank + modelGroup(r.Rules)
	case api.RuleLayer:
		return strings.Join(append([]string{"@layer"}, append(layers, modelGroup(r.Rules))...), " ")
	}
	return "@layer " + strings.Join(layers, ", ") + ";"
}

func modelCondition(c api.Cond) (string, api.Errno) {
	if c.Kind == 0 {
		return "", api.OK
	}
	return cond.Text(c)
}

func modelLayer(l []string) string {
	text := ""
	for _, s := range l {
		text += "." + must(glue.Name(s))
	}
	return text[1:]
}

func modelGroup(l []api.Rule) string {
	if len(l) == 0 {
		return "{}"
	}
	return "{ " + strings.Join(modelTexts(l), " ") + " }"
}

func modelTexts(l []api.Rule) []string {
	texts := []string{}
	for _, r := range l {
		texts = append(texts, modelRule(r))
	}
	return texts
}

// pickers makes random texts and rules.
type pickers struct{ *rand.Rand }

func random(seed int64) pickers { return pickers{rand.New(rand.NewSource(seed))} }

func (r pickers) of(s ...string) string { return s[r.Intn(len(s))] }

// bytes is a text of bytes that need not mean anything, but for 0.
func (r pickers) bytes(most int) string {
	var b []byte
	for range 1 + r.Intn(most) {
		b = append(b, byte(1+r.Intn(255)))
	}
	return string(b)
}

func (r pickers) word() string {
	if r.Intn(3) == 0 {
		return r.bytes(5)
	}
	return r.of("a", "b", "x", "y", "-", "--", "-5", "5", "e3", "url", "not", "and", "media", "a.b", "}", ";", "*", "é", "important", "/*", "-->", "\n", "\\", `"`, strings.Repeat("z", 64))
}

func (r pickers) smallWord() string {
	return strings.Map(func(c rune) rune {
		if 'A' <= c && c <= 'Z' {
			return '_'
		}
		return c
	}, strings.ToValidUTF8(r.word(), "?"))
}

// values are some of which most can be those of a declaration.
func (r pickers) values(depth int) []api.Value {
	var v []api.Value
	leaf := func(t api.Token) { v = append(v, api.Value{Token: t}) }
	for range r.Intn(5) {
		whole := r.Intn(2) == 0
		number := api.Token{Kind: api.TokNumber, Num: (r.Int63n(4001) - 2000) * 1000, Flag: whole}
		if !whole {
			number.Num = r.Int63n(2000000000001) - 1000000000000
		}
		switch r.Intn(14) {
		case 0:
			leaf(api.Token{Kind: api.TokSpace})
		case 1:
			number.Kind, number.Unit = api.TokDimension, r.word()
			leaf(number)
		case 2:
			leaf(number)
		case 3:
			leaf(api.Token{Kind: api.TokPercent, Num: number.Num})
		case 4:
			leaf(api.Token{Kind: api.TokString, Text: r.bytes(9)})
		case 5:
			leaf(api.Token{Kind: api.TokURL, Text: r.bytes(9)})
		case 6:
			leaf(api.Token{Kind: api.TokHash, Text: r.word(), Flag: r.Intn(3) > 0})
		case 7:
			leaf(api.Token{Kind: api.TokAt, Text: r.word()})
		case 8:
			leaf(api.Token{Kind: api.TokDelim, Text: r.of("-", "+", ".", "#", "@", "/", "*", "<", "!", "=", "&", "|", "$", "%", ">", "~", "\x01", "\x7f")})
		case 9:
			leaf(api.Token{Kind: api.TokDelim, Text: `\`})
			leaf(api.Token{Kind: api.TokSpace})
		case 10:
			leaf(api.Token{Kind: []uint8{api.TokCDO, api.TokCDC, api.TokColon, api.TokSemicolon, api.TokComma}[r.Intn(5)]})
		case 11, 12:
			if depth > 0 {
				block := api.Token{Kind: []uint8{api.TokOpenSquare, api.TokOpenParen, api.TokOpenCurly, api.TokFunction}[r.Intn(4)]}
				if block.Kind == api.TokFunction {
					block.Text = r.word()
				}
				v = append(v, api.Value{Token: block, List: r.values(depth - 1)})
			}
		default:
			leaf(api.Token{Kind: api.TokIdent, Text: r.word()})
		}
	}
	return v
}

func (r pickers) decl() api.Decl {
	for {
		d := api.Decl{Name: r.smallWord(), Value: r.values(3), Important: r.Intn(4) == 0}
		if r.Intn(3) == 0 {
			d.Name = "--" + r.word()
		}
		if decl.Check(d) == api.OK {
			return d
		}
	}
}

func (r pickers) selectors(deep int) []api.Complex {
	var l []api.Complex
	for range 1 + r.Intn(2) {
		c := api.Complex{Parts: []api.Compound{r.compound(deep)}}
		for r.Intn(3) == 0 {
			c.Combs = append(c.Combs, uint8(1+r.Intn(4)))
			c.Parts = append(c.Parts, r.compound(deep))
		}
		l = append(l, c)
	}
	return l
}

func (r pickers) compound(deep int) api.Compound {
	p := api.Compound{Tag: r.of("", "*", "a", r.smallWord())}
	for p.Tag == "" && len(p.Simples) == 0 || r.Intn(3) == 0 {
		s := api.Simple{Kind: uint8(1 + r.Intn(14))}
		switch {
		case s.Kind <= api.SimClass:
			s.Name = r.word()
		case s.Kind == api.SimAttr:
			s.Name, s.Op = r.smallWord(), uint8(r.Intn(7))
			if s.Op > 0 {
				s.Value, s.Fold = r.of("", r.word()), r.Intn(2) == 0
			}
		case s.Kind == api.SimNth || s.Kind == api.SimNthLast:
			s.Anb = api.Anb{A: int64(r.Intn(5) - 2), B: int64(r.Intn(7) - 3)}
			if s.Of = deep > 0 && r.Intn(2) == 0; s.Of {
				s.List = r.selectors(deep - 1)
			}
		case s.Kind >= api.SimIs && deep > 0:
			s.List = r.selectors(deep - 1)
			if s.Kind == api.SimHas {
				s.List[0].Lead = uint8(1 + r.Intn(4))
			}
		}
		p.Simples = append(p.Simples, s)
	}
	return p
}

func (r pickers) condition(depth int) api.Cond {
	var c api.Cond
	switch c.Kind = []uint8{api.CondDecl, api.CondDecl, api.CondNever, api.CondNot, api.CondAll, api.CondAny}[r.Intn(min(6, 3+3*depth))]; c.Kind {
	case api.CondDecl:
		c.Decl = r.decl()
	case api.CondNot:
		c.List = []api.Cond{r.condition(depth - 1)}
	case api.CondAll, api.CondAny:
		for len(c.List) < 2 || r.Intn(3) == 0 {
			c.List = append(c.List, r.condition(depth-1))
		}
	}
	return c
}

func (r pickers) query() api.Cond {
	c := api.Cond{Kind: api.CondAll}
	typed := r.Intn(2) == 0
	if typed {
		c.List = []api.Cond{{Kind: api.CondMedia, Name: r.of("screen", "all", r.smallWord())}}
	}
	for len(c.List) == 0 || r.Intn(3) == 0 {
		c.List = append(c.List, api.Cond{Kind: []uint8{api.CondMin, api.CondMax}[r.Intn(2)], Num: r.Int63n(1 + r.Int63n(1000000000001))})
	}
	if typed && r.Intn(3) == 0 {
		return api.Cond{Kind: api.CondNot, List: []api.Cond{c}}
	}
	return c
}

func (r pickers) layer() []string {
	l := []string{r.word()}
	for r.Intn(3) == 0 {
		l = append(l, r.word())
	}
	return l
}

// rule is mostly a valid one.
func (r pickers) rule(depth int) api.Rule {
	x := api.Rule{Kind: []uint8{api.RuleStyle, api.RuleStyle, api.RuleNames, api.RuleLayer, api.RuleMedia, api.RuleSupports}[r.Intn(min(6, 3+3*depth))]}
	switch x.Kind {
	case api.RuleStyle:
		x.Selectors = r.selectors(r.Intn(4))
		for r.Intn(3) > 0 {
			x.Decls = append(x.Decls, r.decl())
		}
		return x
	case api.RuleNames:
		for len(x.Names) == 0 || r.Intn(2) == 0 {
			x.Names = append(x.Names, r.layer())
		}
		return x
	case api.RuleLayer:
		if r.Intn(3) > 0 {
			x.Names = [][]string{r.layer()}
		}
	case api.RuleMedia:
		x.Cond = api.Cond{Kind: api.CondAll}
		for r.Intn(2) == 0 {
			x.Cond.Kind = api.CondAny
			x.Cond.List = append(x.Cond.List, r.query())
		}
	case api.RuleSupports:
		x.Cond = r.condition(2)
	}
	for r.Intn(3) > 0 {
		x.Rules = append(x.Rules, r.rule(depth-1))
	}
	if r.Intn(10) == 0 {
		return wrap(1+r.Intn(14), x, r.rule(0))
	}
	return x
}

// validRule is a valid rule whose parts have texts.
func (r pickers) validRule(depth int) api.Rule {
	for {
		if x := r.rule(depth); sheet.CheckRule(x) == api.OK && len(modelRule(x)) < mostText {
			return x
		}
	}
}

// eachSheet calls f with many valid sheets, whose texts may be too long.
func eachSheet(sheets int, f func(r pickers, x api.Sheet)) {
	r := random(12)
	for i := range sheets {
		var l []api.Rule
		for range r.Intn(5) {
			l = append(l, r.validRule(3))
		}
		if i%20 == 0 {
			// Among others there have to be some with room for few more, or none.
			l = append(l, many(r.validRule(0), max(0, mostRules-count(l...)-r.Intn(4)))...)
		}
		if x := (api.Sheet{Rules: l}); sheet.Check(x) == api.OK {
			f(r, x)
		}
	}
}

// P12.1 and P12.2

func TestTextsAreLikeTheModel(t *testing.T) {
	said := map[api.Errno]int{}
	eachSheet(3000, func(_ pickers, x api.Sheet) {
		want := modelTexts(x.Rules)
		l, e := round.Texts(x)
		if e != api.OK || !slices.Equal(l, want) {
			t.Fatalf("Texts(%+v) = %q, %v; want %q", x, l, e, want)
		}
		for i, r := range x.Rules {
			if s, e := round.Rule(r); e != api.OK || s != want[i] {
				t.Fatalf("Rule(%+v) = %q, %v; want %q", r, s, e, want[i])
			}
		}
		whole, wantE := strings.Join(want, "\n"), api.OK
		if len(whole) > mostText {
			whole, wantE = "", api.ErrLong
		}
		if s, e := round.Sheet(x); e != wantE || s != whole {
			t.Fatalf("Sheet(%+v) = %q, %v; want %q, %v", x, s, e, whole, wantE)
		}
		said[wantE]++
	})
	if said[api.OK] < 2000 || said[api.ErrLong] < 20 {
		t.Error(said)
	}
}

// P12.4

// hasFewTokens reports whether a text has few enough tokens to be read.
func hasFewTokens(s string) bool {
	_, e := token.Tokens(s)
	return e == api.OK
}

func TestWhatIsWrittenIsReadAsTheSame(t *testing.T) {
	kinds, deepest := map[uint8]int{}, 0
	eachSheet(4000, func(_ pickers, x api.Sheet) {
		s, e := round.Sheet(x)
		if e != api.OK || !hasFewTokens(s) {
			return
		}
		again, e := sheet.Read(s)
		if e != api.OK || !sameSheet(again, x) {
			t.Fatalf("%q is read as %+v, %v; want %+v", s, again, e, x)
		}
		if s2, e := round.Sheet(again); e != api.OK || s2 != s {
			t.Fatalf("%q is written again as %q, %v", s, s2, e)
		}
		for i, text := range must(round.Texts(x)) {
			kinds[x.Rules[i].Kind]++
			deepest = max(deepest, must(nest.Depth(valuesOf(text))))
			if r, e := sheet.Rule(text); e != api.OK || !same(r, x.Rules[i]) {
				t.Fatalf("%q is read as %+v, %v; want %+v", text, r, e, x.Rules[i])
			}
		}
	})
	for kind := api.RuleStyle; kind <= api.RuleNames; kind++ {
		if kinds[kind] < 500 {
			t.Error(kinds)
		}
	}
	if deepest != 16 {
		t.Error(deepest)
	}
}

func TestThereIsOneTextForEachSheet(t *testing.T) {
	texts := map[string]api.Sheet{}
	twice := 0
	check := func(x api.Sheet) {
		s, e := round.Sheet(x)
		if e != api.OK {
			return
		}
		if y, is := texts[s]; is && !sameSheet(x, y) {
			t.Fatalf("%+v and %+v have the text %q", x, y, s)
		} else if is {
			twice++
		}
		texts[s] = x
	}
	some := []api.Rule{style("a", ""), style("a,b", ""), style("a b", "c:d"), style("a", "c:d;e:f"), media(""), media("x"), media("x,y"), supports("f()"), supports("not f()"),
		bare(), layer(name("x")), layer(name("x", "y")), layer(name("x.y")), names(name("x")), names(name("x", "y")), names(name("x"), name("y")), names(name("x, y"))}
	for _, a := range some {
		check(of(a))
		for _, b := range some {
			check(of(a, b))
			for _, outer := range []api.Rule{media(""), bare(), layer(name("x"))} {
				check(of(wrap(1, outer, a), b))
				check(of(a, wrap(1, outer, b)))
				outer.Rules = []api.Rule{a, b}
				check(of(outer))
			}
		}
	}
	eachSheet(3000, func(_ pickers, x api.Sheet) {
		check(x)
		for _, r := range x.Rules {
			check(of(r))
		}
	})
	if twice < 500 || len(texts) < 2000 {
		t.Error(twice, len(texts))
	}
}

// text is that of a sheet, or almost.
func (r pickers) text() string {
	var s strings.Builder
	for range r.Intn(25) {
		s.WriteString(r.of("a{}", "A , .B{C:d}", "a{", "}", "{", "b:c;", "@media", "@MEDIA ", " screen", "(min-width:5.50px)", " and ", "@supports", "(a:b)", " f()", " not ", " or ", "{a{}}", "@layer", " x", ".y", ",", ";", " ", "/**/", "\n", "<!--", "-->", ":is(a,5,[b])", "5", "--x:", "!important", `\31 `, "'x'", ")", "[", "{b:c;d}", "@layer x.y;", "@layer x{", "@media{", "@supports f(){", "h1>h2{margin:0 auto!IMPORTANT;--A:{}}"))
	}
	if r.Intn(20) == 0 {
		s.WriteString(strings.Repeat(r.of("a{}", "@layer{"+s.String()+"}"), r.Intn(80)))
	}
	return s.String()
}

func TestATextAndWhatIsWrittenGiveTheSameSheet(t *testing.T) {
	counts, full := [4]int{}, 0
	r := random(120)
	for range 30000 {
		s := r.text()
		x, e := sheet.Read(s)
		if e != api.OK {
			continue
		}
		text, e := round.Sheet(x)
		if e != api.OK && e != api.ErrLong || e == api.ErrLong && text != "" {
			t.Fatalf("Sheet of %q = %q, %v", s, text, e)
		}
		if e != api.OK || !hasFewTokens(text) {
			continue
		}
		again, e := sheet.Read(text)
		if e != api.OK || !sameSheet(x, again) {
			t.Fatalf("%q has %+v, and its text %q %+v, %v", s, x, text, again, e)
		}
		if text2, e := round.Sheet(again); e != api.OK || text2 != text {
			t.Fatalf("%q is written as %q, and then as %q, %v", s, text, text2, e)
		}
		counts[min(count(x.Rules...), 3)]++
		full += count(x.Rules...) / mostRules
	}
	if slices.Min(counts[:]) < 1000 || full < 10 {
		t.Error(counts, full)
	}
}

// P12.3 and P12.4

func TestWhatIsEdited(t *testing.T) {
	said := map[api.Errno]int{}
	eachSheet(2000, func(r pickers, x api.Sheet) {
		added, top := r.validRule(1), len(x.Rules)
		at := r.Intn(top + 1)
		wanted := api.OK
		if count(x.Rules...)+count(added) > mostRules {
			wanted = api.ErrFull
		}
		y, e := round.Insert(x, added, at)
		said[e]++
		if e != wanted || e != api.OK && len(y.Rules) > 0 {
			t.Fatalf("Insert(%+v, %+v, %d) = %+v, %v; want %v", x, added, at, y, e, wanted)
		}
		if e == api.OK {
			checkEdited(t, y, slices.Insert(slices.Clone(x.Rules), at, added))
			back, e := round.Delete(y, at)
			if e != api.OK || !sameSheet(back, x) {
				t.Fatalf("Delete(%+v, %d) = %+v, %v; want %+v", y, at, back, e, x)
			}
		}
		for range min(top, 4) {
			at := r.Intn(top)
			y, e := round.Delete(x, at)
			if e != api.OK {
				t.Fatalf("Delete(%+v, %d): %v", x, at, e)
			}
			checkEdited(t, y, slices.Delete(slices.Clone(x.Rules), at, at+1))
			back, e := round.Insert(y, x.Rules[at], at)
			if e != api.OK || !sameSheet(back, x) {
				t.Fatalf("Insert(%+v, %+v, %d) = %+v, %v; want %+v", y, x.Rules[at], at, back, e, x)
			}
		}
	})
	if said[api.OK] < 1500 || said[api.ErrFull] < 20 {
		t.Error(said)
	}
}

// checkEdited checks that a sheet has some rules, and that it is valid.
func checkEdited(t *testing.T, x api.Sheet, want []api.Rule) {
	t.Helper()
	if !sameSheet(x, of(want...)) || sheet.Check(x) != api.OK {
		t.Fatalf("%+v, %v; want %+v", x, sheet.Check(x), want)
	}
	if l, e := round.Texts(x); e != api.OK || !slices.Equal(l, modelTexts(want)) {
		t.Fatalf("Texts(%+v) = %q, %v", x, l, e)
	}
}

// P1: arguments are only read, results share no memory, and nothing is kept.

// eachList calls f with all slices that are in a value.
func eachList(v reflect.Value, f func(l reflect.Value)) {
	switch v.Kind() {
	case reflect.Struct:
		for i := range v.NumField() {
			eachList(v.Field(i), f)
		}
	case reflect.Slice:
		f(v)
		for i := range v.Len() {
			eachList(v.Index(i), f)
		}
	}
}

// extents returns from where to where the memory of each list in some values goes, in order.
func extents(all ...any) [][2]uintptr {
	var l [][2]uintptr
	for _, x := range all {
		eachList(reflect.ValueOf(x), func(v reflect.Value) {
			if v.Cap() > 0 {
				l = append(l, [2]uintptr{v.Pointer(), v.Pointer() + uintptr(v.Cap())*v.Type().Elem().Size()})
			}
		})
	}
	slices.SortFunc(l, func(a, b [2]uintptr) int { return slices.Compare(a[:], b[:]) })
	return l
}

// shareMemory reports whether lists in some values have memory in common.
func shareMemory(all ...any) bool {
	l := extents(all...)
	for i := range l {
		if i > 0 && l[i-1][1] > l[i][0] {
			return true
		}
	}
	return false
}

// reach reports whether lists in a value have memory in common with those in others, which may share theirs.
func reach(x any, others ...any) bool {
	theirs := extents(others...)
	return slices.ContainsFunc(extents(x), func(a [2]uintptr) bool {
		return slices.ContainsFunc(theirs, func(b [2]uintptr) bool { return a[0] < b[1] && b[0] < a[1] })
	})
}

// roomy returns a copy of a value whose lists have something between their length and their capacity.
func roomy[T any](x T) T {
	var copied func(v reflect.Value) reflect.Value
	copied = func(v reflect.Value) reflect.Value {
		c := reflect.New(v.Type()).Elem()
		switch v.Kind() {
		case reflect.Struct:
			for i := range v.NumField() {
				c.Field(i).Set(copied(v.Field(i)))
			}
		case reflect.Slice:
			c.Set(reflect.MakeSlice(v.Type(), v.Len()+2, v.Len()+2))
			for i := range v.Len() {
				c.Index(i).Set(copied(v.Index(i)))
			}
			if v.Len() > 0 {
				c.Index(v.Len()).Set(c.Index(0))
			}
			c.Set(c.Slice(0, v.Len()))
		default:
			c.Set(v)
		}
		return c
	}
	return copied(reflect.ValueOf(x)).Interface().(T)
}

// dump tells all of a value, with what is between the length and the capacity of its lists.
func dump(x any) string {
	var b strings.Builder
	fmt.Fprintf(&b, "%+v", x)
	eachList(reflect.ValueOf(x), func(l reflect.Value) { fmt.Fprintf(&b, " %+v", l.Slice(0, l.Cap()).Interface()) })
	return b.String()
}

func TestResultsShareNoMemory(t *testing.T) {
	everything := supports("(a:f((b))) and (not (c:[d]))", style("a:is(b :not(c, .d)):nth-child(2n of e)", "f:{g;(h)} i!important"), media("x and (min-width:5px)", names(name("x"), name("y", "z"))), layer(name("u", "v")))
	check := func(x api.Sheet, r api.Rule, at int) {
		y, _ := round.Insert(x, r, at)
		again, _ := round.Insert(x, r, at)
		z, _ := round.Delete(x, at)
		last, _ := round.Delete(y, len(y.Rules)-1)
		texts, _ := round.Texts(x)
		if shareMemory(y, again, z, last, texts) || reach(y, x, r) || reach(z, x) || reach(last, y) {
			t.Fatalf("Insert(%+v, %+v, %d), or Delete, shares memory", x, r, at)
		}
	}
	for _, r := range everything.Rules {
		check(of(r), r, 0)
	}
	// All of this is in the same memory.
	inner := roomy(everything)
	shared := of(inner, inner, layer(name("x"), inner, inner), inner)
	for at := range len(shared.Rules) + 1 {
		check(shared, inner, at)
		check(shared, shared.Rules[2], at)
		check(api.Sheet{Rules: shared.Rules[:at:at]}, inner, at/2)
	}
	eachSheet(500, func(r pickers, x api.Sheet) { check(roomy(x), roomy(r.validRule(2)), r.Intn(len(x.Rules)+1)) })
}

func TestArgumentsAreOnlyRead(t *testing.T) {
	eachSheet(500, func(r pickers, x api.Sheet) {
		x, added := roomy(x), roomy(r.validRule(2))
		beforeX, beforeAdded := dump(x), dump(added)
		var texts [2]string
		for i := range texts {
			var b strings.Builder
			for _, at := range []int{-1, 0, 1, len(x.Rules) / 2, len(x.Rules) - 1, len(x.Rules), len(x.Rules) + 1} {
				y, e := round.Insert(x, added, at)
				z, f := round.Delete(x, at)
				fmt.Fprintf(&b, "%+v %v %+v %v", y, e, z, f)
			}
			l, e := round.Texts(x)
			s, f := round.Sheet(x)
			one, g := round.Rule(added)
			fmt.Fprintf(&b, "%q %v %q %v %q %v", l, e, s, f, one, g)
			texts[i] = b.String()
		}
		if texts[0] != texts[1] {
			t.Fatalf("%s, and then %s", texts[0], texts[1])
		}
		if dump(x) != beforeX || dump(added) != beforeAdded {
			t.Fatalf("%s became %s, or %s %s", beforeX, dump(x), beforeAdded, dump(added))
		}
	})
}
