package seltext_test

import (
	"fmt"
	"math/rand"
	"regexp"
	"slices"
	"strconv"
	"strings"
	"testing"

	"vitrine/anb"
	"vitrine/api"
	"vitrine/glue"
	"vitrine/nest"
	"vitrine/seltext"
)

// The model of reading: each value is a letter, and the definitions are patterns of letters. What may be there is told by how many lists are in each other in what was read.

const (
	simpleForm   = `(?:#|\[|\.i|:i|:f)`
	compoundForm = `(?:[i*]` + simpleForm + `*|` + simpleForm + `+)`
)

var (
	someCompound = regexp.MustCompile(compoundForm)
	someSimple   = regexp.MustCompile(simpleForm)
	complexes    = regexp.MustCompile(`^s*(?:([>+~])s*)?(` + compoundForm + `(?:(?:s*[>+~]s*|s+)` + compoundForm + `)*)s*$`)
	attributes   = regexp.MustCompile(`^s*(i)(?:s*([~|^$*]?=)s*([it])s*(i?))?s*$`)
)

func letter(x api.Value) string {
	switch t := x.Token; t.Kind {
	case api.TokIdent:
		return "i"
	case api.TokString:
		return "t"
	case api.TokSpace:
		return "s"
	case api.TokFunction:
		return "f"
	case api.TokColon:
		return ":"
	case api.TokComma:
		return ","
	case api.TokOpenSquare:
		return "["
	case api.TokHash:
		if t.Flag {
			return "#"
		}
	case api.TokDelim:
		if strings.Contains(" * > + ~ . = | ^ $ ", " "+t.Text+" ") {
			return t.Text
		}
	}
	return "x"
}

func letters(v []api.Value) string {
	var s string
	for _, x := range v {
		s += letter(x)
	}
	return s
}

// where is how a list stands in the model: how many lists it is in, and whether it is below a SimHas, or the list of one.
type where struct {
	deep          int
	below, direct bool
}

// needs returns how many lists are in each other in a complex selector, and whether there is a SimHas.
func needs(c api.Complex) (deep int, has bool) {
	for _, p := range c.Parts {
		for _, s := range p.Simples {
			if s.Kind >= api.SimIs || s.Of {
				deep = max(deep, 1)
			}
			has = has || s.Kind == api.SimHas
			for _, d := range s.List {
				n, h := needs(d)
				deep, has = max(deep, 1+n), has || h
			}
		}
	}
	return deep, has
}

func modelParts(v []api.Value) [][]api.Value {
	if at := strings.IndexByte(letters(v), ','); at >= 0 {
		return append([][]api.Value{v[:at]}, modelParts(v[at+1:])...)
	}
	return [][]api.Value{v}
}

func modelList(v []api.Value, at where, forgiving bool) (l []api.Complex, ok bool) {
	for _, p := range modelParts(v) {
		c, ok := modelComplex(p, at)
		if ok {
			deep, has := needs(c)
			ok = at.deep+deep <= 3 && !(at.below && has)
		}
		if !ok && !forgiving {
			return nil, false
		}
		if ok {
			l = append(l, c)
		}
	}
	return l, true
}

func modelComplex(v []api.Value, at where) (c api.Complex, ok bool) {
	text := letters(v)
	m := complexes.FindStringSubmatchIndex(text)
	if m == nil || m[2] >= 0 && !at.direct {
		return c, false
	}
	if at.direct {
		c.Lead = api.CombDescendant
		if m[2] >= 0 {
			c.Lead = modelComb(text[m[2]:m[3]])
		}
	}
	v, text = v[m[4]:m[5]], text[m[4]:m[5]]
	end := 0
	for i, span := range someCompound.FindAllStringIndex(text, -1) {
		if i > 0 {
			c.Combs = append(c.Combs, modelComb(text[end:span[0]]))
		}
		end = span[1]
		p, ok := modelCompound(v[span[0]:end], at)
		if !ok {
			return c, false
		}
		c.Parts = append(c.Parts, p)
	}
	return c, len(c.Parts) <= 64
}

func modelComb(s string) uint8 {
	return map[string]uint8{"": 1, ">": 2, "+": 3, "~": 4}[strings.Trim(s, "s")]
}

func modelCompound(v []api.Value, at where) (p api.Compound, ok bool) {
	text, tag := letters(v), 0
	if text[0] == 'i' || text[0] == '*' {
		p.Tag, tag = modelLower(v[0].Token.Text), 1
		if !modelName(p.Tag) {
			return p, false
		}
	}
	for _, span := range someSimple.FindAllStringIndex(text[tag:], -1) {
		s, ok := modelSimple(v[tag+span[0]:tag+span[1]], at)
		if !ok {
			return p, false
		}
		p.Simples = append(p.Simples, s)
	}
	return p, len(p.Simples) <= 64
}

func modelLower(s string) string {
	b := []byte(s)
	for i := range b {
		if strings.IndexByte("ABCDEFGHIJKLMNOPQRSTUVWXYZ", b[i]) >= 0 {
			b[i] |= 32
		}
	}
	return string(b)
}

func modelName(s string) bool { return len(s) > 0 && len(s) < 65 && !strings.Contains(s, "\x00") }

func modelSimple(v []api.Value, at where) (api.Simple, bool) {
	name := v[len(v)-1].Token.Text
	switch letters(v) {
	case "#":
		return api.Simple{Kind: api.SimId, Name: name}, modelName(name)
	case ".i":
		return api.Simple{Kind: api.SimClass, Name: name}, modelName(name)
	case "[":
		return modelAttr(v[0].List)
	case ":i":
		s, ok := map[string]api.Simple{
			"link": alone(api.SimLink), "visited": alone(api.SimVisited), "any-link": alone(api.SimAnyLink), "root": alone(api.SimRoot), "empty": alone(api.SimEmpty),
			"first-child": nth(api.SimNth, 0, 1), "last-child": nth(api.SimNthLast, 0, 1),
		}[modelLower(name)]
		return s, ok
	}
	kind := map[string]uint8{"nth-child": api.SimNth, "nth-last-child": api.SimNthLast, "is": api.SimIs, "where": api.SimWhere, "not": api.SimNot, "has": api.SimHas}[modelLower(name)]
	s, v := api.Simple{Kind: kind}, v[1].List
	in := where{at.deep + 1, at.below || kind == api.SimHas, kind == api.SimHas}
	ok := kind != 0
	if kind == api.SimNth || kind == api.SimNthLast {
		head, e := v, api.OK
		for i, x := range v {
			if x.Token.Kind == api.TokIdent && strings.EqualFold(x.Token.Text, "of") {
				s.Of, head = true, v[:i]
				s.List, ok = modelList(v[i+1:], in, false)
				break
			}
		}
		l, _ := nest.Flat(head)
		s.Anb, e = anb.Of(l)
		return s, ok && e == api.OK
	}
	if ok {
		s.List, ok = modelList(v, in, kind == api.SimIs || kind == api.SimWhere)
	}
	return s, ok
}

func modelAttr(v []api.Value) (s api.Simple, ok bool) {
	m := attributes.FindStringSubmatchIndex(letters(v))
	if m == nil {
		return s, false
	}
	s = attr(modelLower(v[m[2]].Token.Text), api.AttrHas, "")
	if m[4] >= 0 {
		s.Op = map[string]uint8{"=": 1, "~=": 2, "|=": 3, "^=": 4, "$=": 5, "*=": 6}[letters(v)[m[4]:m[5]]]
		s.Value = v[m[6]].Token.Text
		if m[8] < m[9] {
			flag := modelLower(v[m[8]].Token.Text)
			s.Fold = flag == "i"
			if flag != "i" && flag != "s" {
				return s, false
			}
		}
	}
	return s, modelName(s.Name) && len(s.Value) <= 400 && !strings.Contains(s.Value, "\x00")
}

func modelCount(l []api.Complex) int {
	count := len(l)
	for _, c := range l {
		for _, p := range c.Parts {
			for _, s := range p.Simples {
				count += modelCount(s.List)
			}
		}
	}
	return count
}

func modelOf(v []api.Value) ([]api.Complex, api.Errno) {
	if e := nest.Check(v); e != api.OK {
		return nil, e
	}
	l, ok := modelList(v, where{}, false)
	if !ok {
		return nil, api.ErrForm
	}
	if modelCount(l) > 64 {
		return nil, api.ErrMany
	}
	return l, api.OK
}

func modelRead(s string) ([]api.Complex, api.Errno) {
	v, e := valuesOf(s)
	if e != api.OK {
		return nil, e
	}
	return modelOf(v)
}

// The model of the text of lists.

func modelText(l []api.Complex) string {
	var texts []string
	for _, c := range l {
		s := []string{"", "", "> ", "+ ", "~ "}[c.Lead]
		for i, p := range c.Parts {
			if i > 0 {
				s += []string{"", " ", " > ", " + ", " ~ "}[c.Combs[i-1]]
			}
			s += modelTag(p.Tag)
			for _, x := range p.Simples {
				s += modelSimpleText(x)
			}
		}
		texts = append(texts, s)
	}
	return strings.Join(texts, ", ")
}

func modelTag(s string) string {
	if s == "" || s == "*" {
		return s
	}
	return glued(ident(s))
}

func glued(t api.Token) string {
	s, e := glue.One(t)
	if e != api.OK {
		panic(fmt.Sprint(t, e))
	}
	return s
}

func modelSimpleText(s api.Simple) string {
	name := [...]string{"", "#", ".", "", "link", "visited", "any-link", "root", "empty", "nth-child", "nth-last-child", "is", "where", "not", "has"}[s.Kind]
	switch {
	case s.Kind <= api.SimClass:
		return name + glued(ident(s.Name))
	case s.Kind == api.SimAttr:
		text := "[" + glued(ident(s.Name))
		if s.Op > 0 {
			text += [...]string{"", "=", "~=", "|=", "^=", "$=", "*="}[s.Op] + glued(str(s.Value))
		}
		if s.Fold {
			text += " i"
		}
		return text + "]"
	case s.Kind <= api.SimEmpty:
		return ":" + name
	case s.Kind >= api.SimIs:
		return ":" + name + "(" + modelText(s.List) + ")"
	case sameCompound(compound("", s), compound("", nth(api.SimNth, 0, 1))):
		return ":first-child"
	case sameCompound(compound("", s), compound("", nth(api.SimNthLast, 0, 1))):
		return ":last-child"
	}
	text, _ := anb.Text(s.Anb)
	if s.Of {
		text += " of " + modelText(s.List)
	}
	return ":" + name + "(" + text + ")"
}

// Texts, short and long ones.

// eachText calls f with all texts of at most length of some parts.
func eachText(length int, f func(s string), parts ...string) {
	var grow func(s string, left int)
	grow = func(s string, left int) {
		f(s)
		if left > 0 {
			for _, p := range parts {
				grow(s+p, left-1)
			}
		}
	}
	grow("", length)
}

func eachShort(f func(s string)) {
	eachText(6, f, "a", ".", " ", ">", ":is(", ")")
	eachText(4, f, "A", "#b", "*", "~", " ", "+", ",", "[c]", ":", "root")
	eachText(4, func(s string) { f("[" + s + "]"); f(":is(b,[" + s) }, "A", "=", "~", "|", "'b'", " ", "i", "s", "5", "*", "^", "$")
	eachText(4, func(s string) { f(":nth-child(" + s + ")") }, "2n", "+", "1", " ", "of", "a", ",", "(", ":is(")
	eachText(4, func(s string) { f(s); f(":has(a," + s) }, ":not(", ":has(", ":where(", "b", "> c", ",", ")", ":nth-child(1 of ")
	eachText(3, f, "a", "/**/", " ", "\n", `\`, "5", "'", "(", ")", "[", "]", "{", ";", "!", "|", "&", "@x", "#1", "#x", ".", "::", "url(x)", "--x", "\x00", "<!--", "-->", "%", "é")
}

// pickers makes random texts and lists.
type pickers struct{ *rand.Rand }

func (r pickers) of(s ...string) string { return s[r.Intn(len(s))] }

func (r pickers) spaces() string { return r.of("", "", "", " ", "  ", "\n", " /**/ ", "/**/") }

func (r pickers) word(s string) string {
	b := []byte(s)
	for i := range b {
		if r.Intn(4) == 0 {
			b[i] = strings.ToUpper(string(b[i : i+1]))[0]
		}
	}
	return string(b)
}

// text is one of a list, or almost.
func (r pickers) text(deep int, relative bool) string {
	var s string
	for i := range 1 + r.Intn(3) {
		if i > 0 {
			s += ","
		}
		s += r.spaces() + r.complexText(deep, relative) + r.spaces()
	}
	return s
}

func (r pickers) complexText(deep int, relative bool) string {
	var s string
	if relative && r.Intn(2) == 0 || r.Intn(40) == 0 {
		s = r.of(">", "+", "~") + r.spaces()
	}
	for i := range 1 + r.Intn(3) {
		if i > 0 {
			s += r.spaces() + r.of(" ", " ", ">", "+", "~", " > ") + r.spaces()
		}
		s += r.of("", "a", "B", "*", "em", "5", `\31`)
		for range r.Intn(3) {
			s += r.simpleText(deep)
		}
	}
	return s
}

func (r pickers) simpleText(deep int) string {
	kinds := 12
	if deep == 0 {
		kinds = 7
	}
	switch r.Intn(kinds) {
	case 0:
		return "#" + r.of("a", "B", "1", "é")
	case 1, 2:
		return "." + r.of("a", "B", `\*`, strings.Repeat("n", 64), strings.Repeat("n", 65))
	case 3:
		return "[" + r.spaces() + r.of("a", "B", "5") + r.spaces() + r.of("", "=", "~=", "|=", "^=", "$=", "*=") + r.spaces() + r.of("b", "'C d'", "\"\"", "") + r.of(" ", "") + r.of("", "", "I", "s", "x") + r.spaces() + "]"
	case 4, 5:
		return ":" + r.word(r.of("link", "visited", "any-link", "root", "empty", "first-child", "last-child", "hover"))
	case 6, 7:
		s := ":" + r.word(r.of("nth-child", "nth-last-child")) + "(" + r.spaces() + r.of("odd", "2N", "-n + 3", "1", "x", "n-1") + r.spaces()
		if deep > 0 && r.Intn(2) == 0 {
			s += " " + r.word("of") + " " + r.text(deep-1, false)
		}
		return s + ")"
	}
	name := r.of("is", "is", "where", "not", "has")
	return ":" + r.word(name) + "(" + r.text(deep-1, name == "has") + r.of(")", ")", ")", ")", ")", ")", ")", ",)", "")
}

func eachLong(f func(s string)) {
	r := pickers{rand.New(rand.NewSource(8))}
	for i := range 8000 {
		deep := r.Intn(4)
		if i%20 == 0 {
			deep = 5
		}
		s := r.text(deep, false)
		if r.Intn(5) == 0 {
			at := r.Intn(len(s) + 1)
			s = s[:at] + r.of(",", " ", ")", "(", "]", ":", ">", "x") + s[at:]
		}
		f(s)
	}
}

func TestReadIsLikeTheModel(t *testing.T) {
	said := map[api.Errno]int{}
	check := func(s string) {
		want, wantE := modelRead(s)
		said[wantE]++
		got, e := seltext.Read(s)
		if e != wantE || !same(got, want) {
			t.Fatalf("Read(%q) = %+v, %d; want %+v, %d", s, got, int(e), want, int(wantE))
		}
	}
	eachShort(check)
	eachLong(check)
	for _, s := range []string{":is(", ":not(", ":has(", ":nth-child(1 of ", ":where(a,"} {
		for _, inside := range []string{"a", "> a", "a,", ".x:is(5", ":has(b", ":not(:is(:not("} {
			for n := range 18 {
				check(strings.Repeat(s, n) + inside)
			}
		}
	}
	for _, e := range []api.Errno{api.OK, api.ErrForm, api.ErrDeep} {
		if said[e] < 5 || e != api.ErrDeep && said[e] < 10000 {
			t.Error(said)
		}
	}
}

func TestOfIsLikeTheModel(t *testing.T) {
	r := rand.New(rand.NewSource(88))
	tokens := []api.Token{ident("a"), ident("A"), ident("of"), ident("is"), ident("root"), ident(""), ident("*"), ident("b\x00"), ident(strings.Repeat("n", 65)),
		space, comma, colon, dot, delim("*"), delim(">"), delim("+"), delim("~"), delim("="), delim("|"), delim("~="), delim(""), hash("a"), hash("1"), hash(""),
		str("v"), str("v\x00"), str(strings.Repeat("v", 401)), {Kind: api.TokHash, Text: "a"}, mark(0), mark(api.TokBadString), mark(25),
		{Kind: api.TokNumber, Num: 1000, Flag: true}, {Kind: api.TokDimension, Num: 2000, Unit: "N", Flag: true}, odd(ident("a")), odd(space), odd(colon)}
	blocks := []api.Token{squares, squares, parens, function("is"), function("NOT"), function("has"), function("where"), function("nth-child"), function("x"), odd(function("is")), odd(squares)}
	var grow func(deep int) []api.Value
	grow = func(deep int) []api.Value {
		var v []api.Value
		for range r.Intn(5) {
			switch n := r.Intn(8); {
			case n == 0 && deep > 0:
				v = append(v, block(squares, grow(deep-1)...))
			case n < 3 && deep > 0:
				v = append(append(v, leaves(colon)...), block(blocks[r.Intn(len(blocks))], grow(deep-1)...))
			case n < 5:
				v = append(v, leaves(ident("a"))...)
			default:
				v = append(v, leaves(tokens[r.Intn(len(tokens))])...)
			}
		}
		return v
	}
	said := map[api.Errno]int{}
	for range 200000 {
		v := grow(3)
		// A tag that is empty is as good as none; the model does not say so.
		if hasEmptyIdent(v) {
			continue
		}
		want, wantE := modelOf(v)
		said[wantE]++
		if got, e := seltext.Of(v); e != wantE || !same(got, want) {
			t.Fatalf("Of(%+v) = %+v, %d; want %+v, %d", v, got, int(e), want, int(wantE))
		}
	}
	if said[api.OK] < 5000 || said[api.ErrForm] < 5000 {
		t.Error(said)
	}
}

func hasEmptyIdent(v []api.Value) bool {
	return slices.ContainsFunc(v, func(x api.Value) bool { return x.Token == ident("") || hasEmptyIdent(x.List) })
}

// P8.4: what is read is valid, what is written is read as the same, and there is one text for each list.

func TestWhatIsReadIsValid(t *testing.T) {
	texts := map[string][]api.Complex{}
	check := func(s string) {
		l, e := seltext.Read(s)
		if e != api.OK {
			return
		}
		if e := seltext.Check(l); e != api.OK {
			t.Fatalf("Read(%q) = %+v, which is not valid: %d", s, l, int(e))
		}
		if n, e := seltext.Count(l); n != modelCount(l) || e != api.OK {
			t.Fatalf("Count of %q = %d, %d", s, n, int(e))
		}
		text, e := seltext.Text(l)
		if want := modelText(l); e != api.OK || text != want {
			t.Fatalf("Text of %q = %q, %d; want %q", s, text, int(e), want)
		}
		if other, ok := texts[text]; ok && !same(l, other) {
			t.Fatalf("%q is the text of %+v and of %+v", text, l, other)
		} else if ok {
			return
		}
		texts[text] = l
		if again, e := seltext.Read(text); e != api.OK || !same(again, l) {
			t.Fatalf("Read(%q) = %+v, %d; want %+v", text, again, int(e), l)
		}
	}
	eachShort(check)
	eachLong(check)
	if len(texts) < 5000 {
		t.Errorf("there were %d texts", len(texts))
	}
}

// Lists, valid ones and others.

func (r pickers) name() string {
	b := make([]byte, 1+r.Intn(4))
	for i := range b {
		b[i] = byte(1 + r.Intn(255))
	}
	if r.Intn(3) == 0 {
		b[0] = "-5_a*\\"[r.Intn(6)]
	}
	if r.Intn(20) == 0 {
		return strings.Repeat(string(b[:1]), 64)
	}
	return string(b)
}

// list is a valid list that stands somewhere, but may have too many selectors.
func (r pickers) list(at where, least int) []api.Complex {
	var l []api.Complex
	for range least + r.Intn(3) {
		c := r.compounds(at)
		if at.direct {
			c.Lead = uint8(1 + r.Intn(4))
		}
		l = append(l, c)
	}
	return l
}

func (r pickers) compounds(at where) api.Complex {
	var c api.Complex
	for i := range 1 + r.Intn(3) {
		if i > 0 {
			c.Combs = append(c.Combs, uint8(1+r.Intn(4)))
		}
		p := api.Compound{Tag: r.of("", "*", "a", modelLower(r.name()))}
		for range r.Intn(4) {
			p.Simples = append(p.Simples, r.simple(at))
		}
		if p.Tag == "" && len(p.Simples) == 0 {
			p.Tag = "b"
		}
		c.Parts = append(c.Parts, p)
	}
	return c
}

func (r pickers) simple(at where) api.Simple {
	s := api.Simple{Kind: uint8(1 + r.Intn(14))}
	room := at.deep < 3
	if !room && s.Kind >= api.SimIs || at.below && s.Kind == api.SimHas {
		s.Kind = uint8(1 + r.Intn(10))
	}
	in := where{at.deep + 1, at.below || s.Kind == api.SimHas, s.Kind == api.SimHas}
	switch s.Kind {
	case api.SimId, api.SimClass:
		s.Name = r.name()
	case api.SimAttr:
		s.Name, s.Op = modelLower(r.name()), uint8(r.Intn(7))
		if s.Op > 0 {
			s.Value, s.Fold = r.of("", "v", r.name()), r.Intn(2) == 0
		}
	case api.SimNth, api.SimNthLast:
		s.Anb = api.Anb{A: int64(r.Intn(5) - 2), B: int64(r.Intn(5) - 2)}
		if s.Of = room && r.Intn(2) == 0; s.Of {
			s.List = r.list(in, 1)
		}
	case api.SimIs, api.SimWhere:
		s.List = r.list(in, 0)
	case api.SimNot, api.SimHas:
		s.List = r.list(in, 1)
	}
	return s
}

func eachList(f func(l []api.Complex)) {
	r := pickers{rand.New(rand.NewSource(80))}
	for range 10000 {
		f(r.list(where{deep: r.Intn(3)}, 1))
	}
}

func TestWhatIsWrittenIsReadAsTheSame(t *testing.T) {
	said := map[api.Errno]int{}
	eachList(func(l []api.Complex) {
		want := api.OK
		if modelCount(l) > 64 {
			want = api.ErrMany
		}
		said[want]++
		if e := seltext.Check(l); e != want {
			t.Fatalf("Check(%+v) = %d; want %d", l, int(e), int(want))
		}
		text := modelText(l)
		if want == api.OK && len(text) > 4000 {
			want = api.ErrLong
		}
		if want != api.OK {
			text = ""
		}
		s, e := seltext.Text(l)
		if s != text || e != want {
			t.Fatalf("Text(%+v) = %q, %d; want %q, %d", l, s, int(e), text, int(want))
		}
		if e != api.OK {
			return
		}
		if got, e := seltext.Read(s); e != api.OK || !same(got, l) {
			t.Fatalf("Read(%q) = %+v, %d; want %+v", s, got, int(e), l)
		}
	})
	if said[api.OK] < 5000 || said[api.ErrMany] < 20 {
		t.Error(said)
	}
}

// A name of any byte is written so that it is read as the same.
func TestNamesOfAllBytes(t *testing.T) {
	for b := 1; b < 256; b++ {
		for _, s := range []string{"%", "%%", "-%", "a%", "%1", "% ", "%a"} {
			name := strings.ReplaceAll(s, "%", string([]byte{byte(b)}))
			tag := modelLower(name)
			l := list(
				then(one(tag, id(name), class(name), attr(tag, api.AttrHas, ""), attr(tag, api.AttrEnds, name), class(name)), api.CombDescendant, tag),
				then(one("", class(name)), api.CombChild, tag, of(api.SimNot, one(tag), one("", id(name)))),
				one("", of(api.SimHas, led(api.CombNext, one(tag)), led(api.CombDescendant, one("", class(name)))), class(name)),
			)
			text, e := seltext.Text(l)
			if got, f := seltext.Read(text); e != api.OK || f != api.OK || !same(got, l) {
				t.Fatalf("Text(%+v) = %q, %d; Read of it: %+v, %d", l, text, int(e), got, int(f))
			}
		}
	}
}

// P8.4: what does not count.

// styled is the text of a list, with spaces and letters that do not count.
func (r pickers) styled(l []api.Complex) string {
	comb := func(c uint8) string {
		if c == api.CombDescendant {
			return r.of(" ", "  ", "\t", "\n", " /**/ ", "/**/ ")
		}
		return r.spaces() + string(" >+~"[c-1]) + r.spaces()
	}
	var texts []string
	for _, c := range l {
		var s string
		if c.Lead > api.CombDescendant {
			s = strings.TrimSpace(comb(c.Lead))
		}
		for i, p := range c.Parts {
			if i > 0 {
				s += comb(c.Combs[i-1])
			}
			s += r.word(p.Tag)
			for _, x := range p.Simples {
				s += r.styledSimple(x)
			}
		}
		texts = append(texts, r.spaces()+s+r.spaces())
	}
	return strings.Join(texts, ",")
}

func (r pickers) styledSimple(s api.Simple) string {
	text := modelSimpleText(api.Simple{Kind: s.Kind, Name: s.Name, Op: s.Op, Value: s.Value, Fold: s.Fold, Anb: s.Anb})
	switch {
	case s.Kind == api.SimAttr:
		name := len("[" + s.Name)
		return "[" + r.spaces() + r.word(text[1:name]) + r.spaces() + text[name:len(text)-1] + r.spaces() + "]"
	case s.Kind >= api.SimIs:
		return r.word(text[:len(text)-1]) + r.styled(s.List) + ")"
	case s.Of:
		a, _ := anb.Text(s.Anb)
		return ":nth-" + map[bool]string{true: "last-"}[s.Kind == api.SimNthLast] + "child(" + r.spaces() + r.word(a) + " " + r.word("of") + " " + r.styled(s.List) + ")"
	case s.Kind >= api.SimLink:
		return r.word(text)
	}
	return text
}

func TestSpacesAndLettersDoNotCount(t *testing.T) {
	r := pickers{rand.New(rand.NewSource(800))}
	seen := 0
	eachLong(func(s string) {
		l, e := seltext.Read(s)
		text, f := seltext.Text(l)
		// Letters of escapes do not count anyway, but are not to be made others here.
		if e != api.OK || f != api.OK || strings.Contains(text, `\`) {
			return
		}
		seen++
		for range 3 {
			styled := r.styled(l)
			if got, e := seltext.Read(styled); e != api.OK || !same(got, l) {
				t.Fatalf("Read(%q) = %+v, %d; want the one of %q", styled, got, int(e), text)
			}
		}
	})
	if seen < 500 {
		t.Errorf("there were %d lists", seen)
	}
}

// P8.4: a part that is no selector makes all of a list none, but is left out in :is and :where.

func TestPartsThatAreNone(t *testing.T) {
	var parts []string
	for _, s := range []string{"", " ", "5", "> a", "a >", "a::b", ":not()", ":not(5)", ":not(a,)", "[5]", ":nth-child(x)", ":nth-child(1 of 5)", ":hover", "a/**/b", "(a)", ":has()", "." + strings.Repeat("x", 65), "a" + strings.Repeat(" a", 64), ":has(:has(a))", ":not(:not(:not(:not(a))))", "a|b", "&", "'a'"} {
		parts = append(parts, s)
	}
	for _, s := range parts {
		for _, around := range []string{"%", "a,%", "%,a", "a,%,b"} {
			text := strings.Replace(around, "%", s, 1)
			var rest []string
			for _, p := range strings.Split(around, ",") {
				if p != "%" {
					rest = append(rest, p)
				}
			}
			checkText(t, text, "")
			for _, f := range []string{":not(%)", ":nth-child(1 of %)", ":nth-last-child(1 of %)"} {
				checkText(t, strings.Replace(f, "%", text, 1), "")
			}
			for _, f := range []string{":is(%)", ":where(%)", "a:is(%) b", ":not(:is(%))", ":is(:where(%))", ":is(:is(:is(%)))", ":has(:is(%))"} {
				checkText(t, strings.Replace(f, "%", text, 1), strings.Replace(f, "%", strings.Join(rest, ", "), 1))
			}
		}
	}
}

// Each list is checked on its own: a change in any place of it is seen.

func TestCheckSeesEachPlace(t *testing.T) {
	r := pickers{rand.New(rand.NewSource(81))}
	breaks := []func(c *api.Complex){
		func(c *api.Complex) { c.Lead ^= 1 + uint8(4*r.Intn(2)) },
		func(c *api.Complex) { c.Parts = nil },
		func(c *api.Complex) { c.Combs = append(slices.Clip(c.Combs), api.CombChild) },
		func(c *api.Complex) { c.Parts = append(slices.Clip(c.Parts), compound("a")) },
		func(c *api.Complex) { c.Parts[r.Intn(len(c.Parts))] = compound("") },
		func(c *api.Complex) { c.Parts[r.Intn(len(c.Parts))].Tag = "A" },
		func(c *api.Complex) { c.Parts[r.Intn(len(c.Parts))].Tag = "\x00" },
		func(c *api.Complex) { c.Parts[r.Intn(len(c.Parts))].Simples = []api.Simple{alone(0)} },
		func(c *api.Complex) { c.Parts[r.Intn(len(c.Parts))].Simples = []api.Simple{alone(15)} },
		func(c *api.Complex) { c.Parts[r.Intn(len(c.Parts))].Simples = []api.Simple{of(api.SimNot)} },
		func(c *api.Complex) { c.Parts[r.Intn(len(c.Parts))].Simples = []api.Simple{folded(class("a"))} },
	}
	eachList(func(l []api.Complex) {
		var all []*api.Complex
		var collect func(l []api.Complex)
		collect = func(l []api.Complex) {
			for i := range l {
				all = append(all, &l[i])
				for _, p := range l[i].Parts {
					for _, s := range p.Simples {
						collect(s.List)
					}
				}
			}
		}
		collect(l)
		c := all[r.Intn(len(all))]
		n := r.Intn(len(breaks))
		// Of a relative selector some other leads are as good.
		if n == 0 && c.Lead > 0 {
			c.Lead = 0
		} else {
			breaks[n](c)
		}
		if e := seltext.Check(l); e != api.ErrBad {
			t.Fatalf("Check(%+v) = %d after break %d", l, int(e), n)
		}
		if s, e := seltext.Text(l); e != api.ErrBad || s != "" {
			t.Fatalf("Text(%+v) = %q, %d after break %d", l, s, int(e), n)
		}
	})
}

// P1: arguments are only read, results share no memory, and nothing is kept.

func cloned(l []api.Complex) []api.Complex {
	l = slices.Clone(l)
	for i := range l {
		l[i].Combs = slices.Clone(l[i].Combs)
		l[i].Parts = slices.Clone(l[i].Parts)
		for j := range l[i].Parts {
			p := &l[i].Parts[j]
			p.Simples = slices.Clone(p.Simples)
			for k := range p.Simples {
				p.Simples[k].List = cloned(p.Simples[k].List)
			}
		}
	}
	return l
}

// number writes numbers over all lists, up to their capacities, and returns how many there were.
func number(l []api.Complex, n int) int {
	for i, c := range l[:cap(l)] {
		for j, p := range c.Parts[:cap(c.Parts)] {
			for k, s := range p.Simples[:cap(p.Simples)] {
				n = number(s.List, n)
				p.Simples[:cap(p.Simples)][k].Name = strconv.Itoa(n)
				n++
			}
			c.Parts[:cap(c.Parts)][j].Tag = strconv.Itoa(n)
			n++
		}
		for j := range c.Combs[:cap(c.Combs)] {
			c.Combs[:cap(c.Combs)][j] = uint8(n)
			n++
		}
		l[:cap(l)][i].Lead = uint8(n)
		n++
	}
	return n
}

// areNumbered reports whether the numbers of number are still there, so that no memory was written twice.
func areNumbered(l []api.Complex, n int) (int, bool) {
	ok := true
	for _, c := range l[:cap(l)] {
		for _, p := range c.Parts[:cap(c.Parts)] {
			for _, s := range p.Simples[:cap(p.Simples)] {
				var inner bool
				n, inner = areNumbered(s.List, n)
				ok = ok && inner && s.Name == strconv.Itoa(n)
				n++
			}
			ok = ok && p.Tag == strconv.Itoa(n)
			n++
		}
		for _, comb := range c.Combs[:cap(c.Combs)] {
			ok = ok && comb == uint8(n)
			n++
		}
		ok = ok && c.Lead == uint8(n)
		n++
	}
	return n, ok
}

// roomy returns values whose lists have other values between their length and their capacity.
func roomy(v []api.Value) []api.Value {
	w := append(make([]api.Value, 0, len(v)+2), v...)
	for i := range w {
		w[i].List = roomy(w[i].List)
	}
	copy(w[len(w):cap(w)], leaves(dot, ident("x")))
	return w
}

// whole returns a copy of values, with all that is between the length and the capacity of lists.
func whole(v []api.Value) []api.Value {
	w := slices.Clone(v[:cap(v)])
	for i := range w {
		w[i].List = whole(w[i].List)
	}
	return w
}

func sameValues(v, w []api.Value) bool {
	return slices.EqualFunc(v, w, func(x, y api.Value) bool { return x.Token == y.Token && sameValues(x.List, y.List) })
}

func TestReadingOnlyReads(t *testing.T) {
	eachLong(func(s string) {
		v, e := valuesOf(s)
		if e != api.OK {
			return
		}
		want, wantE := modelOf(v)
		v = roomy(v)
		before := whole(v)
		l, e := seltext.Of(v)
		if e != wantE || !same(l, want) || !sameValues(whole(v), before) {
			t.Fatalf("Of the values of %q = %+v, %d; want %+v, %d", s, l, int(e), want, int(wantE))
		}
		number(l, 0)
		if _, ok := areNumbered(l, 0); !ok || !sameValues(whole(v), before) {
			t.Fatalf("Of the values of %q shares memory", s)
		}
		if again, e := seltext.Of(v); e != wantE || !same(again, want) {
			t.Fatalf("Of the values of %q again: %+v, %d", s, again, int(e))
		}
	})
}

// spacious returns a list with something else between the lengths and the capacities of its lists.
func spacious(l []api.Complex) []api.Complex {
	other := one("x", class("y"))
	l = append(cloned(l), other)[:len(l)]
	for i := range l {
		c := &l[i]
		c.Combs = append(c.Combs, 9)[:len(c.Combs)]
		c.Parts = append(c.Parts, compound("z"))[:len(c.Parts)]
		for j := range c.Parts {
			p := &c.Parts[j]
			p.Simples = append(p.Simples, id("w"))[:len(p.Simples)]
			for k := range p.Simples {
				p.Simples[k].List = spacious(p.Simples[k].List)
			}
		}
	}
	return l
}

// ends reports whether what spacious put behind a list and its lists is still there.
func ends(l []api.Complex) bool {
	ok := same(l[len(l):len(l)+1], list(one("x", class("y"))))
	for _, c := range l {
		ok = ok && c.Combs[:len(c.Combs)+1][len(c.Combs)] == 9 && sameCompound(c.Parts[:len(c.Parts)+1][len(c.Parts)], compound("z"))
		for _, p := range c.Parts {
			ok = ok && sameCompound(compound("", p.Simples[len(p.Simples):len(p.Simples)+1]...), compound("", id("w")))
			for _, s := range p.Simples {
				ok = ok && ends(s.List)
			}
		}
	}
	return ok
}

func TestWritingOnlyReads(t *testing.T) {
	eachList(func(l []api.Complex) {
		room := spacious(l)
		s, e := seltext.Text(room)
		n, f := seltext.Count(room)
		g := seltext.Check(room)
		if !same(room, l) || !ends(room) {
			t.Fatalf("%+v became %+v", l, room)
		}
		again, h := seltext.Text(l)
		if s != again || e != h {
			t.Fatalf("Text(%+v) = %q, %d, and then %q, %d", l, s, int(e), again, int(h))
		}
		if f != g || f == api.OK && n != modelCount(l) {
			t.Fatalf("Count(%+v) = %d, %d; Check = %d", l, n, int(f), int(g))
		}
	})
}

// P1: every call ends.

func TestListsInThemselves(t *testing.T) {
	for _, kind := range []uint8{api.SimNth, api.SimNthLast, api.SimIs, api.SimWhere, api.SimNot, api.SimHas} {
		s := of(kind)
		s.Of = kind <= api.SimNthLast
		l := slices.Repeat(list(one("a", slices.Repeat([]api.Simple{s}, 64)...)), 64)
		for i := range l {
			for j := range l[i].Parts[0].Simples {
				l[i].Parts[0].Simples[j].List = l
			}
		}
		checkSays(t, "a list in itself", l, 0, api.ErrBad)
	}
}

func TestSharedLists(t *testing.T) {
	wide := func(s api.Simple) api.Complex {
		p := compound("a", slices.Repeat([]api.Simple{s}, 64)...)
		return api.Complex{Parts: slices.Repeat([]api.Compound{p}, 64), Combs: slices.Repeat([]uint8{api.CombChild}, 63)}
	}
	shared := list(one("a"))
	for range 3 {
		shared = slices.Repeat(list(wide(of(api.SimIs, shared...))), 64)
	}
	checkSays(t, "shared lists", shared, 0, api.ErrMany)
	checkSays(t, "shared lists with a bad one", append(shared, one("")), 0, api.ErrBad)
	checkSays(t, "shared lists too deep", list(wide(of(api.SimIs, shared...))), 0, api.ErrBad)
	deeper := shared[0].Parts[0].Simples[0].List
	checkSays(t, "shared lists in :not", list(one("", of(api.SimNot, deeper...))), 0, api.ErrMany)
	deeper = deeper[0].Parts[0].Simples[0].List
	checkSays(t, "shared lists in :not in :has", list(one("", of(api.SimHas, led(api.CombChild, one("", of(api.SimNot, deeper...)))))), 0, api.ErrMany)
	long := wide(attr("a", api.AttrIs, strings.Repeat("\n", 400)))
	checkSays(t, "shared attributes", slices.Repeat(list(long), 64), 64, api.OK)
	if s, e := seltext.Text(slices.Repeat(list(long), 64)); s != "" || e != api.ErrLong {
		t.Errorf("Text of shared attributes = %.100q, %d", s, int(e))
	}
	empty := slices.Repeat(list(wide(of(api.SimIs))), 64)
	checkSays(t, "shared empty lists", empty, 64, api.OK)
	if s, e := seltext.Text(empty); s != "" || e != api.ErrLong {
		t.Errorf("Text of shared empty lists = %.100q, %d", s, int(e))
	}
}
