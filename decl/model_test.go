package decl_test

import (
	"math/rand"
	"regexp"
	"slices"
	"strings"
	"testing"

	"vitrine/api"
	"vitrine/decl"
	"vitrine/glue"
	"vitrine/nest"
	"vitrine/token"
)

// The model: the definitions of the chapter, as patterns. Each value that is in no block is a letter.

var (
	smallName  = regexp.MustCompile(`(?s)^[^\x00A-Z]{1,64}$`)
	customName = regexp.MustCompile(`(?s)^--[^\x00]{1,62}$`)
	part       = regexp.MustCompile(`^s*[iI]s*(c)s*(.*?)s*(bs*Is*)?$`)
	body       = regexp.MustCompile(`^([^sb;]([^b;]*[^sb;])?)?$`)
)

// chars makes each byte of a text a code point, so that patterns count bytes.
func chars(s string) string {
	var r []rune
	for i := range len(s) {
		r = append(r, rune(s[i]))
	}
	return string(r)
}

// letters returns a letter for each value.
func letters(v []api.Value) string {
	var b strings.Builder
	for _, x := range v {
		switch t := x.Token; {
		case t.Kind == api.TokIdent && strings.ToLower(t.Text) == "important":
			b.WriteByte('I')
		case t.Kind == api.TokIdent:
			b.WriteByte('i')
		case t.Kind == api.TokSpace:
			b.WriteByte('s')
		case t.Kind == api.TokColon:
			b.WriteByte('c')
		case t.Kind == api.TokSemicolon:
			b.WriteByte(';')
		case t.Kind == api.TokDelim && t.Text == "!":
			b.WriteByte('b')
		default:
			b.WriteByte('o')
		}
	}
	return b.String()
}

func modelValid(d api.Decl) bool {
	name := chars(d.Name)
	custom := customName.MatchString(name)
	if !custom && (!smallName.MatchString(name) || d.Name == "--" || len(d.Value) == 0) {
		return false
	}
	l, e := nest.Flat(d.Value)
	if e != api.OK || glue.Check(l) != api.OK || !body.MatchString(letters(d.Value)) {
		return false
	}
	openers, closers := 0, 0
	for _, t := range l {
		switch t.Kind {
		case api.TokFunction, api.TokOpenSquare, api.TokOpenParen, api.TokOpenCurly:
			openers++
		case api.TokCloseSquare, api.TokCloseParen, api.TokCloseCurly:
			closers++
		}
	}
	return openers == closers
}

func modelOne(v []api.Value) (api.Decl, bool) {
	m := part.FindStringSubmatchIndex(letters(v))
	if m == nil {
		return api.Decl{}, false
	}
	first := slices.IndexFunc(v, func(x api.Value) bool { return x.Token.Kind != api.TokSpace })
	name := v[first].Token.Text
	if !strings.HasPrefix(name, "--") {
		name = strings.Map(func(r rune) rune {
			if 'A' <= r && r <= 'Z' {
				r += 'a' - 'A'
			}
			return r
		}, name)
	}
	d := api.Decl{Name: name, Value: v[m[4]:m[5]], Important: m[6] >= 0}
	if !modelValid(d) {
		return api.Decl{}, false
	}
	return d, true
}

// modelParts returns what stands between semicolons that are in no block.
func modelParts(v []api.Value) [][]api.Value {
	at := strings.IndexByte(letters(v), ';')
	if at < 0 {
		return [][]api.Value{v}
	}
	return append([][]api.Value{v[:at]}, modelParts(v[at+1:])...)
}

func modelOf(v []api.Value) []api.Decl {
	var l []api.Decl
	for _, p := range modelParts(v) {
		if d, ok := modelOne(p); ok && len(l) < 32 {
			l = append(l, d)
		}
	}
	return l
}

// few are values of all that counts here.
func few() []api.Value {
	return values(name("A"), word, space, colon, bang, semicolon, block(curlies, semicolon, bang))
}

// eachShort calls f with all lists of at most so many of the few values.
func eachShort(most int, f func(v []api.Value)) {
	var grow func(v []api.Value, left int)
	grow = func(v []api.Value, left int) {
		f(v)
		if left == 0 {
			return
		}
		for _, x := range few() {
			grow(append(slices.Clip(v), x), left-1)
		}
	}
	grow(nil, most)
}

// odd are values that are seldom those of a declaration.
func odd() []api.Value {
	return slices.Concat(closers, values(
		name(""), name("--"), name("--B"), name("-"), name("a\x00"), name(strings.Repeat("N", 64)), name(strings.Repeat("n", 65)), name("Ä"), name("imporTant"), name("!"),
		leaf(mark(api.TokBadString)), leaf(mark(api.TokBadURL)), leaf(mark(0)), leaf(delim(`\`)), leaf(api.Token{Kind: api.TokDelim, Text: "!", Flag: true}),
		block(function("url"), name("a")), block(function("url"), leaf(api.Token{Kind: api.TokString, Text: "a"})),
		leaf(api.Token{Kind: api.TokNumber, Num: 1500}), leaf(api.Token{Kind: api.TokHash, Text: "a", Flag: true}), leaf(mark(api.TokCDC)), comma,
	))
}

// piece returns some values that are, or are almost, a declaration with its parts.
func piece(random *rand.Rand) []api.Value {
	pick := func(v []api.Value) api.Value { return v[random.Intn(len(v))] }
	spaces := func() []api.Value { return slices.Repeat(values(space), random.Intn(3)) }
	var inside func(depth int) []api.Value
	inside = func(depth int) []api.Value {
		var v []api.Value
		for range random.Intn(4) {
			x := pick(values(name("x"), space, comma, colon))
			switch random.Intn(12) {
			case 0:
				x = pick(odd())
			case 1:
				x = pick(few())
			case 2, 3:
				if depth > 0 {
					opener := pick(values(leaf(parens), leaf(squares), leaf(curlies), leaf(function("f")))).Token
					x = block(opener, inside(depth-1)...)
				}
			}
			v = append(v, x)
		}
		return v
	}
	property := pick(values(name("a"), name("B-c"), name("--D"), pick(odd()), pick(few())))
	v := slices.Concat(spaces(), values(property), spaces(), values(colon), spaces(), inside(3), spaces())
	if random.Intn(3) == 0 {
		v = slices.Concat(v, values(bang), spaces(), values(pick(values(word, name("IMPORTANT"), name("x")))), spaces())
	}
	if random.Intn(6) == 0 {
		at := random.Intn(len(v))
		v = slices.Delete(v, at, at+1)
	}
	return v
}

// eachLong calls f with some lists of declarations.
func eachLong(f func(v []api.Value)) {
	random := rand.New(rand.NewSource(5))
	for i := range 3000 {
		count := random.Intn(5)
		if i%40 == 0 {
			count = 90
		}
		v := piece(random)
		for range count {
			v = slices.Concat(v, values(semicolon), piece(random))
		}
		f(v)
	}
}

// eachValues calls f with many lists, short and long ones.
func eachValues(f func(v []api.Value)) {
	eachShort(5, f)
	eachLong(f)
}

func TestOneIsLikeTheModel(t *testing.T) {
	said := map[bool]int{}
	check := func(v []api.Value) {
		if e := nest.Check(v); e != api.OK {
			if d, ok, f := decl.One(v); f != e || ok || !sameDecl(d, api.Decl{}) {
				t.Fatalf("One(%+v) = %+v, %v, %v", v, d, ok, f)
			}
			return
		}
		want, is := modelOne(v)
		said[is]++
		if got, ok, e := decl.One(v); e != api.OK || ok != is || !sameDecl(got, want) {
			t.Fatalf("One(%+v) = %+v, %v, %v; want %+v, %v", v, got, ok, e, want, is)
		}
	}
	eachShort(6, check)
	eachLong(check)
	if said[true] < 500 || said[false] < 500 {
		t.Error(said)
	}
}

func TestOfIsLikeTheModel(t *testing.T) {
	most := 0
	eachValues(func(v []api.Value) {
		if e := nest.Check(v); e != api.OK {
			if l, f := decl.Of(v); f != e || len(l) > 0 {
				t.Fatalf("Of(%+v) = %+v, %v", v, l, f)
			}
			return
		}
		want := modelOf(v)
		most = max(most, len(want))
		if got, e := decl.Of(v); e != api.OK || !sameDecls(got, want) {
			t.Fatalf("Of(%+v) = %+v, %v; want %+v", v, got, e, want)
		}
	})
	if most != api.MaxDecls {
		t.Errorf("at most there were %d declarations", most)
	}
}

func TestCheckIsLikeTheModel(t *testing.T) {
	said := map[api.Errno]int{}
	names := []string{"a", "--A", "A", "--", "", "a\x00", "--\x00", strings.Repeat("é", 32), strings.Repeat("é", 33), "[@`{"}
	check := func(d api.Decl) {
		want := api.ErrBad
		if modelValid(d) {
			want = api.OK
		}
		said[want]++
		if e := decl.Check(d); e != want {
			t.Fatalf("Check(%+v) = %v, want %v", d, e, want)
		}
	}
	for i := range 256 {
		for _, s := range []string{"", "-", "--", "a"} {
			check(api.Decl{Name: s + string([]byte{byte(i)}), Value: values(comma)})
		}
	}
	eachValues(func(v []api.Value) {
		for i, s := range names {
			if i < 2 || len(v) < 4 {
				check(api.Decl{Name: s, Value: v, Important: len(v)%2 > 0})
			}
		}
		for i, x := range v {
			if x.Token.Kind == api.TokColon {
				check(api.Decl{Name: "a", Value: v[i+1:]})
				break
			}
		}
	})
	if said[api.OK] < 500 || said[api.ErrBad] < 500 {
		t.Error(said)
	}
}

// P5.2: Read reads the values of a text.

func TestReadIsOf(t *testing.T) {
	eachLong(func(v []api.Value) {
		s, e := nest.Text(v)
		if e != api.OK {
			return
		}
		want, e := decl.Of(valuesOf(t, s))
		got, f := decl.Read(s)
		if e != api.OK || f != api.OK || !sameDecls(got, want) {
			t.Fatalf("Read(%q) = %+v, %v; want %+v", s, got, f, want)
		}
	})
	random := rand.New(rand.NewSource(55))
	parts := []string{"a", ":", ";", "!", "important", " ", "\n", "(", ")", "{", "}", "[", "]", "f(", "url(", "\"", "/*", "*/", "\\", "\x00", "--", ","}
	for range 20000 {
		var s string
		for range random.Intn(40) {
			s += parts[random.Intn(len(parts))]
		}
		l, e := token.Tokens(s)
		var v []api.Value
		if e == api.OK {
			v, e = nest.Parse(l)
		}
		if got, f := decl.Read(s); f != e || e == api.OK && !sameDecls(got, modelOf(v)) {
			t.Fatalf("Read(%q) = %+v, %v; want %+v, %v", s, got, f, modelOf(v), e)
		}
	}
}

// P5.3: the text of declarations is made of their parts.

func TestTextIsLikeTheModel(t *testing.T) {
	eachLong(func(v []api.Value) {
		l, _ := decl.Of(v)
		var texts []string
		for _, d := range l {
			s, e := glue.Name(d.Name)
			value, f := nest.Text(d.Value)
			s += ": " + value
			if d.Important {
				s += " !important"
			}
			if got, g := decl.Text(d); e != api.OK || f != api.OK || g != api.OK || got != s {
				t.Fatalf("Text(%+v) = %q, %v; want %q", d, got, g, s)
			}
			texts = append(texts, s)
		}
		want := strings.Join(texts, "; ")
		got, e := decl.List(l)
		if len(want) > 4000 {
			if e != api.ErrLong || got != "" {
				t.Fatalf("List(%+v) = %q, %v", l, got, e)
			}
			return
		}
		if e != api.OK || got != want {
			t.Fatalf("List(%+v) = %q, %v; want %q", l, got, e, want)
		}
	})
}

// P5.4: a bad declaration is dropped, and all others are kept.

func TestPartsSayNothingAboutOthers(t *testing.T) {
	eachLong(func(v []api.Value) {
		got, e := decl.Of(v)
		if e != api.OK {
			return
		}
		var want []api.Decl
		for _, p := range modelParts(v) {
			d, ok, e := decl.One(p)
			if e != api.OK {
				t.Fatalf("One(%+v): %v", p, e)
			}
			if ok {
				want = append(want, d)
			}
		}
		if want = want[:min(len(want), 32)]; !sameDecls(got, want) {
			t.Fatalf("Of(%+v) = %+v; one by one %+v", v, got, want)
		}
	})
}

func TestGarbageIsDropped(t *testing.T) {
	a, b := with("a", name("x")), with("b", name("y"))
	for _, s := range []string{"", "c", "c:", "c d:e", "c:d!", "c:)", "]", "c:'\n", "c:url(a b)", "(c;d:e)", "{c:d;e:f}", "--:c", "!", "@c d:e", ":", "c:d}e{f}", "c!important:d"} {
		for _, text := range []string{"a:x;" + s + ";b:y", s + ";a:x;b:y", "a:x;b:y;" + s} {
			if l, e := decl.Read(text); e != api.OK || !sameDecls(l, []api.Decl{a, b}) {
				t.Errorf("Read(%q) = %+v, %v", text, l, e)
			}
		}
	}
}

// P5.4: what is read is valid, and what is written is read as the same.

func TestWhatIsReadIsValid(t *testing.T) {
	eachValues(func(v []api.Value) {
		l, _ := decl.Of(v)
		for _, d := range l {
			if e := decl.Check(d); e != api.OK {
				t.Fatalf("Of(%+v) has %+v: %v", v, d, e)
			}
		}
		if d, ok, _ := decl.One(v); ok && decl.Check(d) != api.OK {
			t.Fatalf("One(%+v) = %+v, which is not valid", v, d)
		}
	})
}

func TestWhatIsWrittenIsReadAsTheSame(t *testing.T) {
	checkRead := func(l []api.Decl) {
		s, e := decl.List(l)
		if e == api.ErrLong {
			return
		}
		if got, f := decl.Read(s); e != api.OK || f != api.OK || !sameDecls(got, l) {
			t.Fatalf("List(%+v) = %q, %v; Read of it: %+v, %v", l, s, e, got, f)
		}
	}
	eachLong(func(v []api.Value) {
		l, _ := decl.Of(v)
		checkRead(l)
	})
	for i := range 256 {
		s := string([]byte{byte(i)})
		for _, name := range []string{s, "-" + s, "--" + s, "a" + s + "0"} {
			for _, end := range append(odd(), few()...) {
				d := api.Decl{Name: name, Value: values(end)}
				if decl.Check(d) == api.OK {
					checkRead([]api.Decl{d, urgent(d), d})
				}
			}
		}
	}
}

// P1: arguments are only read, results share no memory, and nothing is kept.

// roomy returns values whose lists have other values between their length and their capacity.
func roomy(v []api.Value) []api.Value {
	w := append(make([]api.Value, 0, len(v)+2), v...)
	for i := range w {
		w[i].List = roomy(w[i].List)
	}
	copy(w[len(w):cap(w)], values(bang, block(parens, semicolon)))
	return w
}

// whole returns a copy of values, with all that is between the length and the capacity of lists.
func whole(v []api.Value) []api.Value {
	w := slices.Clone(v[:cap(v)])
	for i := range w {
		w[i].List = whole(w[i].List)
	}
	return w
}

// listsOf returns all lists of values, up to their capacities.
func listsOf(v []api.Value) [][]api.Value {
	all := [][]api.Value{v[:cap(v)]}
	for _, x := range v {
		all = append(all, listsOf(x.List)...)
	}
	return all
}

// scribble writes over all lists of declarations, and reports whether each has memory of its own.
func scribble(l []api.Decl) bool {
	var all [][]api.Value
	for _, d := range l {
		all = append(all, listsOf(d.Value)...)
	}
	for i, v := range all {
		for j := range v {
			v[j] = leaf(api.Token{Num: int64(i)})
		}
	}
	for i, v := range all {
		if slices.ContainsFunc(v, func(x api.Value) bool { return x.Token.Num != int64(i) }) {
			return false
		}
	}
	return true
}

func TestReadingOnlyReads(t *testing.T) {
	eachLong(func(v []api.Value) {
		v = roomy(v)
		before := whole(v)
		d, ok, e := decl.One(v)
		l, f := decl.Of(v)
		one, want := modelOne(v)
		if e == api.OK && f == api.OK && (ok != want || !sameDecl(d, one) || !sameDecls(l, modelOf(v))) {
			t.Fatalf("One(%+v) = %+v, Of = %+v", v, d, l)
		}
		if !scribble(append(l, d)) || !same(whole(v), before) {
			t.Fatalf("results of %+v share memory", before)
		}
		clear(l[:cap(l)])
		if again, g := decl.Of(v); g != f || f == api.OK && !sameDecls(again, modelOf(v)) {
			t.Fatalf("Of(%+v) again: %+v, %v", v, again, g)
		}
	})
}

func TestWritingOnlyReads(t *testing.T) {
	eachLong(func(v []api.Value) {
		l, _ := decl.Of(v)
		room := append(slices.Clone(l), with("x", bang))[:len(l)]
		var before [][]api.Value
		for i := range room {
			room[i].Value = roomy(room[i].Value)
			before = append(before, whole(room[i].Value))
		}
		s, e := decl.List(room)
		for i, d := range room {
			decl.Text(d)
			decl.Check(d)
			if !sameDecl(d, l[i]) || !same(whole(d.Value), before[i]) {
				t.Fatalf("%+v became %+v", l[i], d)
			}
		}
		if !sameDecl(room[:len(l)+1][len(l)], with("x", bang)) {
			t.Fatalf("List wrote behind %+v", room)
		}
		if again, f := decl.List(room); again != s || f != e {
			t.Fatalf("List(%+v) = %q, %v, and then %q, %v", l, s, e, again, f)
		}
	})
}

func TestManyLongDeclarationsEnd(t *testing.T) {
	d := with("a", slices.Repeat(values(comma), api.MaxTokens)...)
	if s, e := decl.List(slices.Repeat([]api.Decl{d}, api.MaxDecls)); e != api.ErrLong || s != "" {
		t.Errorf("List = %.100q, %v", s, e)
	}
	shared := values(comma)
	for range api.MaxDepth {
		shared = slices.Repeat(values(block(parens, shared...)), 1000)
	}
	if e := decl.Check(with("a", shared...)); e != api.ErrBad {
		t.Errorf("Check of blocks that share their lists: %v", e)
	}
	if d, ok, e := decl.One(shared); e != api.ErrMany || ok || !sameDecl(d, api.Decl{}) {
		t.Errorf("One of blocks that share their lists: %+v, %v, %v", d, ok, e)
	}
}
