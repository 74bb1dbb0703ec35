package cond_test

import (
	"math/big"
	"math/rand"
	"regexp"
	"slices"
	"strings"
	"testing"

	"vitrine/api"
	"vitrine/cond"
	"vitrine/decl"
	"vitrine/nest"
	"vitrine/token"
)

// The model of reading: each value is a letter, and the definitions are patterns of letters.

var (
	queryForm    = regexp.MustCompile(`^s*(?:(?:([no])s*)?i|f)(?:s*as*f)*s*$`)
	featureForm  = regexp.MustCompile(`^s*([lg])s*cs*ps*$`)
	supportsForm = regexp.MustCompile(`^s*(?:ns+t|t|t(?:s+as+t)+|t(?:s+os+t)+)s*$`)
	nameForm     = regexp.MustCompile(`(?s)^[^\x00]{1,64}$`)
)

// chars makes each byte of a text a code point, so that patterns count bytes.
func chars(s string) string {
	var r []rune
	for i := range len(s) {
		r = append(r, rune(s[i]))
	}
	return string(r)
}

func modelLower(s string) string {
	return strings.Map(func(r rune) rune {
		if 'A' <= r && r <= 'Z' {
			r += 'a' - 'A'
		}
		return r
	}, s)
}

// letters returns a letter for each value: that of an ident's text, or that of a block.
func letters(v []api.Value, words map[string]string, other func(x api.Value) string) string {
	var b strings.Builder
	for _, x := range v {
		letter, known := words[modelLower(x.Token.Text)]
		switch {
		case x.Token.Kind == api.TokSpace:
			b.WriteByte('s')
		case x.Token.Kind == api.TokIdent && known:
			b.WriteString(letter)
		default:
			b.WriteString(other(x))
		}
	}
	return b.String()
}

func modelFeature(x api.Value) (api.Cond, bool) {
	if x.Token.Kind != api.TokOpenParen {
		return api.Cond{}, false
	}
	n := int64(0)
	m := featureForm.FindStringSubmatch(letters(x.List, map[string]string{"min-width": "l", "max-width": "g"}, func(x api.Value) string {
		switch t := x.Token; {
		case t.Kind == api.TokColon:
			return "c"
		case t.Kind == api.TokDimension && modelLower(t.Unit) == "px" && t.Num >= 0 && t.Num <= most, t.Kind == api.TokNumber && t.Num == 0:
			n = t.Num
			return "p"
		}
		return "x"
	}))
	if m == nil {
		return api.Cond{}, false
	}
	if m[1] == "l" {
		return from(n), true
	}
	return upTo(n), true
}

func modelQuery(v []api.Value) api.Cond {
	query := all()
	m := queryForm.FindStringSubmatch(letters(v, map[string]string{"not": "n", "only": "o", "and": "a", "or": "x"}, func(x api.Value) string {
		if x.Token.Kind == api.TokIdent && nameForm.MatchString(chars(x.Token.Text)) {
			query.List = append(query.List, media(modelLower(x.Token.Text)))
			return "i"
		}
		if f, ok := modelFeature(x); ok {
			query.List = append(query.List, f)
			return "f"
		}
		return "x"
	}))
	switch {
	case m == nil:
		return notAll()
	case m[1] == "n":
		return not(query)
	}
	return query
}

func modelMedia(v []api.Value) (api.Cond, api.Errno) {
	if e := nest.Check(v); e != api.OK {
		return api.Cond{}, e
	}
	if !slices.ContainsFunc(v, func(x api.Value) bool { return x.Token.Kind != api.TokSpace }) {
		return all(), api.OK
	}
	c, first := either(), 0
	for i, x := range append(slices.Clip(v), comma) {
		if x.Token.Kind == api.TokComma {
			c.List = append(c.List, modelQuery(v[first:i]))
			first = i + 1
		}
	}
	if len(c.List) > 64 {
		return api.Cond{}, api.ErrMany
	}
	return c, api.OK
}

func modelSupports(v []api.Value) (api.Cond, bool) {
	var terms []api.Cond
	s := letters(v, map[string]string{"not": "n", "and": "a", "or": "o"}, func(x api.Value) string {
		switch x.Token.Kind {
		case api.TokFunction:
			terms = append(terms, never())
			return "t"
		case api.TokOpenParen:
			terms = append(terms, modelBlock(x.List))
			return "t"
		}
		return "x"
	})
	switch {
	case !supportsForm.MatchString(s):
		return api.Cond{}, false
	case strings.Contains(s, "n"):
		return not(terms[0]), true
	case strings.Contains(s, "a"):
		return all(terms...), true
	case strings.Contains(s, "o"):
		return either(terms...), true
	}
	return terms[0], true
}

func modelBlock(v []api.Value) api.Cond {
	if d, ok, e := decl.One(v); e == api.OK && ok {
		return api.Cond{Kind: api.CondDecl, Decl: d}
	}
	if c, ok := modelSupports(v); ok {
		return c
	}
	return never()
}

// eachShort calls f with all lists of at most so many of some values.
func eachShort(most int, some []api.Value, f func(v []api.Value)) {
	var grow func(v []api.Value, left int)
	grow = func(v []api.Value, left int) {
		f(v)
		if left == 0 {
			return
		}
		for _, x := range some {
			grow(append(slices.Clip(v), x), left-1)
		}
	}
	grow(nil, most)
}

// pickers makes random conditions and texts.
type pickers struct{ *rand.Rand }

func random(seed int64) pickers { return pickers{rand.New(rand.NewSource(seed))} }

func (r pickers) of(s ...string) string { return s[r.Intn(len(s))] }

// word returns a word, with other letters now and then.
func (r pickers) word(s string) string {
	return r.of(s, s, s, strings.ToUpper(s), strings.ToUpper(s[:1])+s[1:])
}

// gap returns spaces, which now and then are none.
func (r pickers) gap() string {
	return r.of(" ", " ", " ", "  ", "\n", " /**/ ", "/**/ ", " /**/", "/**/")
}

// maybe returns spaces, or none.
func (r pickers) maybe() string { return r.of("", "", "", r.gap()) }

func (r pickers) featureText() string {
	value := r.of("0", "1px", "1PX", "2.5px", "700.001px", "1", "-1px", "3em", "0%", "")
	return "(" + r.maybe() + r.word(r.of("min-width", "max-width", "max-width", "width")) + r.maybe() + r.of(":", ":", ":", "") + r.maybe() + value + r.maybe() + ")"
}

func (r pickers) queryText() string {
	s := r.maybe()
	switch r.Intn(4) {
	case 0:
		s += r.word(r.of("not", "only", "or")) + r.gap()
		fallthrough
	case 1:
		s += r.word(r.of("screen", "print", "x", "all", "and"))
	case 2:
		s += r.featureText()
	case 3:
		s += r.of("", "(foo)", "5", "f(x)", "[min-width:0]")
	}
	for r.Intn(2) == 0 {
		s += r.gap() + r.word(r.of("and", "and", "and", "and", "or", "x")) + r.gap() + r.featureText()
	}
	return s + r.maybe()
}

func (r pickers) mediaText() string {
	s := r.queryText()
	for r.Intn(3) > 0 {
		s += "," + r.queryText()
	}
	return s
}

func (r pickers) termText(depth int) string {
	if depth > 0 && r.Intn(2) == 0 {
		return "(" + r.supportsText(depth-1) + ")"
	}
	return r.of("(a:b)", "(A : b!important)", "(--c:)", "(a:)", "f(a:b)", "(x)", "()", "( (a:b))", "(a:f(b) [c])", "(a:b;)", "[a:b]", "x", "(a:(b", "a:b")
}

func (r pickers) supportsText(depth int) string {
	s := r.maybe()
	if r.Intn(4) == 0 {
		s += r.word("not") + r.gap() + r.termText(depth)
	} else {
		s += r.termText(depth)
		joint := r.of("and", "or")
		for r.Intn(2) == 0 {
			s += r.gap() + r.word(joint) + r.gap() + r.termText(depth)
			if r.Intn(8) == 0 {
				joint = r.of("and", "or", "x", "not")
			}
		}
	}
	return s + r.maybe()
}

func readMedia(v []api.Value) (api.Cond, bool) {
	c, e := cond.Media(v)
	return c, e == api.OK
}

func readSupports(v []api.Value) (api.Cond, bool) {
	c, e := cond.Supports(v)
	return c, e == api.OK
}

// eachText calls f with the values of many texts that are, or are almost, a condition.
func eachText(f func(s string, v []api.Value)) {
	r := random(10)
	for range 5000 {
		for _, s := range []string{r.mediaText(), r.supportsText(3)} {
			tokens, tooMany := token.Tokens(s)
			v, tooDeep := nest.Parse(tokens)
			// Now and then a text is too deep.
			if tooMany == api.OK && tooDeep == api.OK {
				f(s, v)
			}
		}
	}
}

// P10.2.

func TestMediaIsLikeTheModel(t *testing.T) {
	understood := map[bool]int{}
	check := func(v []api.Value) {
		want, e := modelMedia(v)
		c, f := cond.Media(v)
		if f != e || !same(c, want) {
			t.Fatalf("Media(%+v) = %+v, %v; want %+v, %v", v, c, f, want, e)
		}
		understood[!same(c, either(notAll()))]++
	}
	feature := block(parens, word("Min-width"), colon, number(0))
	eachShort(6, values(word("Not"), word("oNly"), word("anD"), word("Print"), space, feature, comma), check)
	eachShort(4, values(word("a"), word("or"), feature, block(parens), block(parens, feature), block(function("and"), feature), word("and"), space, colon), check)
	eachShort(5, values(word("max-Width"), space, colon, number(0), dimension(5, "Px"), word("x")), func(v []api.Value) {
		check(values(block(parens, v...)))
	})
	eachText(func(s string, v []api.Value) { check(v) })
	if understood[true] < 5000 || understood[false] < 5000 {
		t.Error(understood)
	}
}

func TestSupportsIsLikeTheModel(t *testing.T) {
	said := map[bool]int{}
	check := func(v []api.Value) {
		want, ok := modelSupports(v)
		c, e := cond.Supports(v)
		if ok != (e == api.OK) || !ok && e != api.ErrForm || !same(c, want) {
			t.Fatalf("Supports(%+v) = %+v, %v; want %+v, %v", v, c, e, want, ok)
		}
		said[ok]++
	}
	term := block(parens, word("a"), colon, word("b"))
	few := values(word("Not"), word("aNd"), word("oR"), space, term, block(function("and")))
	eachShort(6, few, check)
	eachShort(5, append(few, colon, word("x"), block(mark(api.TokOpenSquare), term)), func(v []api.Value) {
		check(values(block(parens, v...)))
		if len(v) < 5 {
			check(values(word("not"), space, block(parens, block(parens, v...))))
			check(values(space, term, space, word("or"), space, block(parens, v...), space))
		}
	})
	eachText(func(s string, v []api.Value) { check(v) })
	if said[true] < 5000 || said[false] < 5000 {
		t.Error(said)
	}
}

// P10.1: valid conditions, by the definitions of the chapter.

// depthOf returns the depth of a condition that is in no list of its own.
func depthOf(c api.Cond) int {
	switch c.Kind {
	case api.CondDecl:
		n, _ := nest.Depth(c.Decl.Value)
		return n + 1
	case api.CondNever:
		return 1
	}
	depth := 0
	for _, x := range c.List {
		n := depthOf(x)
		if slices.Contains([]uint8{api.CondNot, api.CondAll, api.CondAny}, x.Kind) {
			n++
		}
		depth = max(depth, n)
	}
	return depth
}

func (r pickers) name() string {
	return r.of("all", "screen", "print", "a b", "é", "9", "-", "--", "min-width", "not\n", "x,", "a)(", "url", strings.Repeat("\x01", 64))
}

func (r pickers) num() int64 {
	return []int64{0, 1, 999, 1000, 1500, 20000, 123456789, most, most - 1, int64(r.Intn(10000)), r.Int63n(most + 1)}[r.Intn(11)]
}

func (r pickers) query() api.Cond {
	c := all()
	named := r.Intn(2) == 0
	if named {
		c.List = append(c.List, media(r.name()))
	}
	for len(c.List) == 0 || r.Intn(2) == 0 {
		if r.Intn(2) == 0 {
			c.List = append(c.List, from(r.num()))
		} else {
			c.List = append(c.List, upTo(r.num()))
		}
	}
	if named && r.Intn(2) == 0 {
		return not(c)
	}
	return c
}

func (r pickers) media() api.Cond {
	if r.Intn(20) == 0 {
		return all()
	}
	c := either(r.query())
	for len(c.List) < 64 && r.Intn(3) > 0 {
		c.List = append(c.List, r.query())
	}
	return c
}

func (r pickers) declared() api.Cond {
	ends := values(word("x"), word("9 "), number(1500), dimension(-1, "px"), comma, block(parens, colon, space), block(mark(api.TokOpenCurly), space), block(function("f"), word("y")), leaf(api.Token{Kind: api.TokString, Text: "a)\"\n"}), leaf(mark(api.TokCDC)), leaf(api.Token{Kind: api.TokDelim, Text: "/"}), leaf(api.Token{Kind: api.TokURL, Text: "("}))
	c := declared(r.of("a", "b-c", "--D", "not", "and", "x y", "-"), ends[r.Intn(len(ends))])
	for r.Intn(3) == 0 {
		c.Decl.Value = append(c.Decl.Value, space, ends[r.Intn(len(ends))], ends[r.Intn(len(ends))])
	}
	if c.Decl.Name == "--D" && r.Intn(2) == 0 {
		c.Decl.Value = nil
	}
	c.Decl.Important = r.Intn(3) == 0
	return c
}

func (r pickers) supports(depth int) api.Cond {
	switch n := r.Intn(7); {
	case n == 0:
		return never()
	case n == 1 && depth > 0:
		return not(r.supports(depth - 1))
	case n < 6 && depth > 0:
		c := group([]uint8{api.CondAll, api.CondAny}[n%2], r.supports(depth-1), r.supports(depth-1))
		for r.Intn(3) == 0 {
			c.List = append(c.List, r.supports(depth-1))
		}
		return c
	}
	return r.declared()
}

// eachMedia calls f with many valid media conditions, eachSupports with supports conditions.

func eachMedia(f func(r pickers, c api.Cond)) {
	r := random(20)
	for range 5000 {
		f(r, r.media())
	}
}

func eachSupports(f func(r pickers, c api.Cond)) {
	r := random(30)
	for range 5000 {
		f(r, r.supports(r.Intn(5)))
	}
}

func modelMediaValid(c api.Cond) bool {
	text, words := "", map[string]bool{"and": true, "or": true, "not": true, "only": true}
	var tell func(c api.Cond, depth int)
	tell = func(c api.Cond, depth int) {
		bare, wrong := c, "x"
		bare.List = nil
		switch {
		case c.Kind == api.CondMedia && nameForm.MatchString(chars(c.Name)) && modelLower(c.Name) == c.Name && !words[c.Name]:
			bare.Name, wrong = "", "m"
		case (c.Kind == api.CondMin || c.Kind == api.CondMax) && c.Num >= 0 && c.Num <= most:
			bare.Num, wrong = 0, "f"
		case slices.Contains([]uint8{api.CondAll, api.CondAny, api.CondNot}, c.Kind) && depth < 4:
			wrong = string("?AON"[c.Kind])
		}
		if !same(bare, api.Cond{Kind: c.Kind}) {
			wrong = "x"
		}
		text += wrong + "("
		for _, x := range c.List {
			tell(x, depth+1)
		}
		text += ")"
	}
	tell(c, 0)
	return mediaForm.MatchString(text)
}

var mediaForm = regexp.MustCompile(`^(A\(\)|O\(((A\((m\(\)|f\(\))(f\(\))*\))|(N\(A\(m\(\)(f\(\))*\)\))){1,64}\))$`)

func modelSupportsValid(c api.Cond) bool {
	if count(c) > 1500 || depthOf(c) > 16 {
		return false
	}
	bare, least, most := c, 0, 0
	switch c.Kind {
	case api.CondDecl:
		if decl.Check(c.Decl) != api.OK {
			return false
		}
		bare.Decl = api.Decl{}
	case api.CondNever:
	case api.CondNot:
		least, most = 1, 1
	case api.CondAll, api.CondAny:
		least, most = 2, 1500
	default:
		return false
	}
	bare.List = nil
	if !same(bare, api.Cond{Kind: c.Kind}) || len(c.List) < least || len(c.List) > most {
		return false
	}
	for _, x := range c.List {
		if !modelSupportsValid(x) {
			return false
		}
	}
	return true
}

// spoil changes something in a condition.
func (r pickers) spoil(c api.Cond) api.Cond {
	c, _ = changed(c, r.Intn(count(c)), func(c *api.Cond) {
		switch r.Intn(9) {
		case 0:
			c.Kind = uint8(r.Intn(10))
		case 1:
			c.Name = r.of("", "a", "A", "and", "only")
		case 2:
			c.Num = []int64{0, 1, -1, most + 1}[r.Intn(4)]
		case 3:
			c.Decl = []api.Decl{{}, with("a", word("x")), with("a"), {Important: true}}[r.Intn(4)]
		case 4:
			c.List = nil
		case 5:
			c.List = append(slices.Clip(c.List), []api.Cond{never(), media("a"), from(1), all(), {}}[r.Intn(5)])
		case 6:
			c.List = c.List[:max(len(c.List)-1, 0)]
		case 7:
			*c = not(*c)
		case 8:
			*c = either(all(*c))
		}
	})
	return c
}

func TestChecksAreLikeTheModel(t *testing.T) {
	said := map[[2]bool]int{}
	check := func(r pickers, c api.Cond) {
		for range 4 {
			asMedia, asSupports := modelMediaValid(c), modelSupportsValid(c)
			said[[2]bool{asMedia, asSupports}]++
			if e := cond.CheckMedia(c); (e == api.OK) != asMedia || !asMedia && e != api.ErrBad {
				t.Fatalf("CheckMedia(%+v) = %v", c, e)
			}
			if e := cond.CheckSupports(c); (e == api.OK) != asSupports || !asSupports && e != api.ErrBad {
				t.Fatalf("CheckSupports(%+v) = %v", c, e)
			}
			c = r.spoil(c)
		}
	}
	eachMedia(check)
	eachSupports(check)
	if said[[2]bool{true, true}] > 0 || said[[2]bool{true, false}] < 5000 || said[[2]bool{false, true}] < 5000 || said[[2]bool{false, false}] < 5000 {
		t.Error(said)
	}
}

func modelDecls(c api.Cond) []api.Decl {
	if c.Kind == api.CondDecl {
		return []api.Decl{c.Decl}
	}
	var l []api.Decl
	for _, x := range c.List {
		l = slices.Concat(l, modelDecls(x))
	}
	return l
}

func TestDeclsAreInTheOrderOfTheText(t *testing.T) {
	eachSupports(func(r pickers, c api.Cond) {
		l, e := cond.Decls(c)
		if e != api.OK || !slices.EqualFunc(l, modelDecls(c), sameDecl) {
			t.Fatalf("Decls(%+v) = %+v, %v", c, l, e)
		}
		rest, e := cond.Text(c)
		for _, d := range l {
			s, f := decl.Text(d)
			_, behind, ok := strings.Cut(rest, "("+s+")")
			if e == api.OK && (f != api.OK || !ok) {
				t.Fatalf("%q is not in %q", s, rest)
			}
			rest = behind
		}
	})
}

// P10.3: the model of what holds takes it from the text.

var (
	declTerm    = regexp.MustCompile(`\([a-z]: [a-z]\)`)
	innermost   = regexp.MustCompile(`\(([^()]*)\)`)
	featureText = regexp.MustCompile(`^\((min|max)-width: ([0-9.]+)px\)$`)
)

func truth(is bool) string {
	if is {
		return "T"
	}
	return "F"
}

// modelTruth returns what a text without blocks says.
func modelTruth(s string) string {
	words := strings.Split(s, " ")
	switch {
	case words[0] == "not":
		return truth(words[1] == "F")
	case slices.Contains(words, "and"):
		return truth(!slices.Contains(words, "F"))
	}
	return truth(slices.Contains(words, "T"))
}

func modelSupportsHolds(text string, yes []bool) bool {
	text = declTerm.ReplaceAllStringFunc(text, func(string) string {
		first := yes[0]
		yes = yes[1:]
		return truth(first)
	})
	text = strings.ReplaceAll(text, "(unknown)", "F")
	for strings.Contains(text, "(") {
		text = innermost.ReplaceAllStringFunc(text, func(s string) string { return modelTruth(s[1 : len(s)-1]) })
	}
	return modelTruth(text) == "T"
}

func modelMediaHolds(text string, width int64) bool {
	for _, query := range strings.Split(text, ", ") {
		query, negated := strings.CutPrefix(query, "not ")
		holds := true
		for _, s := range strings.Split(query, " and ") {
			if m := featureText.FindStringSubmatch(s); m != nil {
				n, _ := new(big.Rat).SetString(m[2])
				order := big.NewRat(width, 1).Cmp(n)
				holds = holds && order != map[string]int{"min": -1, "max": 1}[m[1]]
			} else {
				holds = holds && (s == "all" || s == "screen")
			}
		}
		if holds != negated {
			return true
		}
	}
	return text == ""
}

// simply makes all names of a condition, and all its declarations, simple ones.
func (r pickers) simply(c api.Cond) api.Cond {
	switch c.Kind {
	case api.CondMedia:
		c.Name = r.of("all", "screen", "print", "screens", "x")
	case api.CondMin, api.CondMax:
		c.Num = int64(r.Intn(8)) * 500
	case api.CondDecl:
		c.Decl = with(r.of("a", "b"), word(r.of("x", "y")))
	}
	c.List = slices.Clone(c.List)
	for i, x := range c.List {
		c.List[i] = r.simply(x)
	}
	return c
}

func (r pickers) truths(c api.Cond) []bool {
	var yes []bool
	for range modelDecls(c) {
		yes = append(yes, r.Intn(2) == 0)
	}
	return yes
}

func textOf(t *testing.T, c api.Cond) string {
	t.Helper()
	s, e := cond.Text(c)
	if e != api.OK {
		t.Fatalf("Text(%+v): %v", c, e)
	}
	return s
}

func holds(t *testing.T, c api.Cond, width int64, yes ...bool) bool {
	t.Helper()
	is, e := cond.Holds(c, api.Env{Width: width}, yes)
	if e != api.OK {
		t.Fatalf("Holds(%+v, %d, %v): %v", c, width, yes, e)
	}
	return is
}

func TestHoldsIsLikeTheModel(t *testing.T) {
	said := map[bool]int{}
	eachMedia(func(r pickers, c api.Cond) {
		c = r.simply(c)
		for width := range int64(5) {
			want := modelMediaHolds(textOf(t, c), width)
			said[want]++
			if is := holds(t, c, width); is != want {
				t.Fatalf("Holds of %q at %d = %v", textOf(t, c), width, is)
			}
		}
	})
	eachSupports(func(r pickers, c api.Cond) {
		c = r.simply(c)
		for range 5 {
			yes := r.truths(c)
			want := modelSupportsHolds(textOf(t, c), yes)
			said[want]++
			if is := holds(t, c, int64(r.Intn(5)), yes...); is != want {
				t.Fatalf("Holds of %q with %v = %v", textOf(t, c), yes, is)
			}
		}
	})
	if said[true] < 5000 || said[false] < 5000 {
		t.Error(said)
	}
}

// P10.4: not, and, or are as in logic.

func TestLogicOfSupports(t *testing.T) {
	eachSupports(func(r pickers, a api.Cond) {
		b := r.supports(2)
		p, q := r.truths(a), r.truths(b)
		x, y, both := holds(t, a, 0, p...), holds(t, b, 0, q...), append(slices.Clip(p), q...)
		for want, got := range map[bool]api.Cond{
			!x:         not(a),
			x:          not(not(a)),
			x && y:     all(a, b),
			!(x && y):  either(not(a), not(b)),
			!x && !y:   not(either(a, b)),
			!(x || !y): not(either(a, not(b))),
		} {
			yes := p
			if len(modelDecls(got)) > len(p) {
				yes = both
			}
			if holds(t, got, 0, yes...) != want {
				t.Fatalf("%+v with %v holds: %v", got, yes, !want)
			}
		}
		if holds(t, either(a, b), 0, both...) != (x || y) || holds(t, all(b, a, a), 0, slices.Concat(q, p, p)...) != (x && y) {
			t.Fatalf("%+v with %v and %+v with %v", a, p, b, q)
		}
	})
}

func TestLogicOfMedia(t *testing.T) {
	eachMedia(func(r pickers, c api.Cond) {
		c = r.simply(c)
		width := int64(r.Intn(5))
		one := c.Kind == api.CondAll
		for _, query := range c.List {
			is := holds(t, either(query), width)
			one = one || is
			negated := query.Kind == api.CondNot
			if negated {
				query = query.List[0]
			}
			each := true
			for _, x := range query.List {
				each = each && holds(t, either(all(x)), width)
			}
			if is != (each != negated) {
				t.Fatalf("%+v at %d holds: %v", query, width, is)
			}
		}
		if holds(t, c, width) != one {
			t.Fatalf("%+v at %d holds: %v", c, width, !one)
		}
	})
}

func TestNotUnderstoodIsNotAll(t *testing.T) {
	eachText(func(s string, v []api.Value) {
		c, _ := cond.Media(v)
		spoiled, e := cond.Media(append(slices.Clip(v), comma, word("5"), word("x"), comma))
		if c.Kind == api.CondAny && (e != api.OK || !same(spoiled, either(append(c.List, notAll(), notAll())...))) {
			t.Fatalf("Media of %q and two more = %+v, %v", s, spoiled, e)
		}
		if c.Kind == api.CondAny && holds(t, c, 1) != holds(t, spoiled, 1) {
			t.Fatalf("%q and two more: %v", s, holds(t, spoiled, 1))
		}
	})
}

// P10.4: a wider screen.

func TestWiderScreens(t *testing.T) {
	r := random(40)
	for range 5000 {
		n := r.num()
		narrow := r.Int63n(1000000001)
		if r.Intn(2) == 0 {
			narrow = min(n/1000+int64(r.Intn(3)), 1000000000)
		}
		wide := min(narrow+int64(r.Intn(3)), 1000000000)
		least, greatest := either(all(from(n))), either(all(upTo(n)))
		if holds(t, least, narrow) && !holds(t, least, wide) || holds(t, greatest, wide) && !holds(t, greatest, narrow) {
			t.Fatalf("%d at %d and %d", n, narrow, wide)
		}
		if holds(t, least, narrow) != (narrow*1000 >= n) || holds(t, greatest, narrow) != (narrow*1000 <= n) {
			t.Fatalf("%d at %d", n, narrow)
		}
	}
}

// P10.4: what is written is read as the same, and there is one text for each condition.

func TestWhatIsWrittenIsReadAsTheSame(t *testing.T) {
	texts := map[string]api.Cond{}
	check := func(c api.Cond, read func(v []api.Value) (api.Cond, bool)) {
		s, e := cond.Text(c)
		if e == api.ErrLong {
			return
		}
		tokens, f := token.Tokens(s)
		if f == api.ErrMany {
			return
		}
		v, g := nest.Parse(tokens)
		again, ok := read(v)
		if e != api.OK || f != api.OK || g != api.OK || !ok || !same(again, c) {
			t.Fatalf("Text(%+v) = %q, %v; it is read as %+v, %v", c, s, e, again, ok)
		}
		if before, ok := texts[s]; ok && !same(before, c) {
			t.Fatalf("%q is the text of %+v and of %+v", s, before, c)
		}
		texts[s] = c
	}
	eachMedia(func(r pickers, c api.Cond) { check(c, readMedia) })
	eachSupports(func(r pickers, c api.Cond) { check(c, readSupports) })
	for b := 1; b < 256; b++ {
		for _, s := range []string{string([]byte{byte(b)}), "-" + string([]byte{byte(b)}), "a" + string([]byte{byte(b)}), string([]byte{byte(b)}) + "0"} {
			if s == modelLower(s) {
				check(either(all(media(s)), not(all(media(s), from(1))), all(media(s))), readMedia)
			}
		}
	}
	for depth := range 15 {
		check(nots(depth+2, never()), readSupports)
		check(nots(depth, all(is("a", "b"), either(never(), never()))), readSupports)
	}
	if len(texts) < 5000 {
		t.Error(len(texts))
	}
}

func TestWhatIsReadIsValid(t *testing.T) {
	check := func(s string, c api.Cond, read func(v []api.Value) (api.Cond, bool)) {
		text := textOf(t, c)
		if again, ok := read(valuesOf(t, text)); !ok || !same(again, c) {
			t.Fatalf("%q is read as %+v, and its text %q as %+v", s, c, text, again)
		}
	}
	eachText(func(s string, v []api.Value) {
		c, e := cond.Media(v)
		if e != api.OK || cond.CheckMedia(c) != api.OK || cond.CheckSupports(c) != api.ErrBad {
			t.Fatalf("Media of %q = %+v, %v", s, c, e)
		}
		check(s, c, readMedia)
		c, e = cond.Supports(v)
		if e == api.ErrForm {
			return
		}
		if e != api.OK || cond.CheckSupports(c) != api.OK || cond.CheckMedia(c) != api.ErrBad {
			t.Fatalf("Supports of %q = %+v, %v", s, c, e)
		}
		check(s, c, readSupports)
	})
}

// P1: arguments are only read, results share no memory, and nothing is kept.

// roomyValues returns values whose lists have other values between their length and their capacity.
func roomyValues(v []api.Value) []api.Value {
	w := append(make([]api.Value, 0, len(v)+2), v...)
	for i := range w {
		w[i].List = roomyValues(w[i].List)
	}
	copy(w[len(w):cap(w)], values(comma, block(parens, colon)))
	return w
}

func wholeValues(v []api.Value) []api.Value {
	w := slices.Clone(v[:cap(v)])
	for i := range w {
		w[i].List = wholeValues(w[i].List)
	}
	return w
}

// roomy returns a condition whose lists have others between their length and their capacity.
func roomy(c api.Cond) api.Cond {
	l := append(make([]api.Cond, 0, len(c.List)+2), c.List...)
	for i := range l {
		l[i] = roomy(l[i])
	}
	copy(l[len(l):cap(l)], []api.Cond{never(), media("x")})
	c.List = l
	c.Decl.Value = roomyValues(c.Decl.Value)
	return c
}

// whole returns a copy of a condition, with all that is between the length and the capacity of lists.
func whole(c api.Cond) api.Cond {
	c.List = slices.Clone(c.List[:cap(c.List)])
	for i := range c.List {
		c.List[i] = whole(c.List[i])
	}
	c.Decl.Value = wholeValues(c.Decl.Value)
	return c
}

// lists are all lists of some results, up to their capacities.
type lists struct {
	conds  [][]api.Cond
	values [][]api.Value
}

func (l *lists) addCond(c api.Cond) {
	l.conds = append(l.conds, c.List[:cap(c.List)])
	for _, x := range c.List {
		l.addCond(x)
	}
	l.addValues(c.Decl.Value)
}

func (l *lists) addValues(v []api.Value) {
	l.values = append(l.values, v[:cap(v)])
	for _, x := range v {
		l.addValues(x.List)
	}
}

// scribble writes over all lists, and reports whether each has memory of its own.
func (l *lists) scribble() bool {
	for i, list := range l.conds {
		for j := range list {
			list[j] = api.Cond{Num: int64(i)}
		}
	}
	for i, list := range l.values {
		for j := range list {
			list[j] = leaf(api.Token{Num: int64(i)})
		}
	}
	for i, list := range l.conds {
		if slices.ContainsFunc(list, func(c api.Cond) bool { return c.Num != int64(i) }) {
			return false
		}
	}
	for i, list := range l.values {
		if slices.ContainsFunc(list, func(x api.Value) bool { return x.Token.Num != int64(i) }) {
			return false
		}
	}
	return true
}

func TestReadingOnlyReads(t *testing.T) {
	eachText(func(s string, v []api.Value) {
		v = roomyValues(v)
		before := wholeValues(v)
		c, e := cond.Media(v)
		d, f := cond.Supports(v)
		var l lists
		l.addCond(c)
		l.addCond(d)
		if !l.scribble() || !sameValues(wholeValues(v), before) {
			t.Fatalf("results of %q share memory", s)
		}
		wantC, g := modelMedia(v)
		wantD, ok := modelSupports(v)
		c, e2 := cond.Media(v)
		d, f2 := cond.Supports(v)
		if e != e2 || e != g || f != f2 || ok != (f == api.OK) || !same(c, wantC) || !same(d, wantD) {
			t.Fatalf("%q again: %+v, %v and %+v, %v", s, c, e2, d, f2)
		}
	})
}

func TestAskingOnlyReads(t *testing.T) {
	check := func(r pickers, c api.Cond) {
		room := roomy(c)
		before := whole(room)
		yes := append(r.truths(c), true, false)
		given := slices.Clone(yes)
		n := len(yes) - 2
		is, e := cond.Holds(room, api.Env{Width: 5}, yes[:n])
		s, f := cond.Text(room)
		decls, g := cond.Decls(room)
		cond.CheckMedia(room)
		cond.CheckSupports(room)
		var l lists
		for _, d := range decls {
			l.addValues(d.Value)
		}
		clear(decls[:cap(decls)])
		if !l.scribble() || !same(whole(room), before) || !slices.Equal(yes, given) {
			t.Fatalf("%+v became %+v", before, whole(room))
		}
		is2, e2 := cond.Holds(c, api.Env{Width: 5}, yes[:n])
		s2, f2 := cond.Text(c)
		decls, g2 := cond.Decls(c)
		if is != is2 || e != e2 || e != api.OK || s != s2 || f != f2 || g != g2 || g == api.OK && !slices.EqualFunc(decls, modelDecls(c), sameDecl) {
			t.Fatalf("%+v again: %v, %v, %q, %v, %+v, %v", c, is2, e2, s2, f2, decls, g2)
		}
	}
	eachMedia(check)
	eachSupports(check)
	// Conditions, and declarations in them, may share lists.
	shared := declared("a", chain(2, word("x"), space, comma)...)
	l := []api.Cond{shared, shared}
	check(random(1), all(group(api.CondAll, l...), group(api.CondAny, l...), shared))
}
