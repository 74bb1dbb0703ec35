package glue_test

import (
	"fmt"
	"math/rand"
	"regexp"
	"slices"
	"strings"
	"testing"

	"vitrine/api"
	"vitrine/glue"
	"vitrine/input"
	"vitrine/token"
)

// The model: the definitions of the chapter, each as it stands there. All of a text is tokenized again for each piece.

var (
	frontForm    = regexp.MustCompile(`\A(?:[0-9]|-[0-9]|-\z)`)
	exponentForm = regexp.MustCompile(`\A[eE]-?[0-9]`)
	inName       = regexp.MustCompile(`[^-_a-zA-Z0-9]`)
	inString     = regexp.MustCompile(`[\n\f\r"\\]`)
	inURL        = regexp.MustCompile(`[\x01-\x20\x7f"'()\\]`)
)

func modelEscape(b byte) string {
	if strings.IndexByte("!\"#$%&'()*+,-./:;<=>?@[\\]^_`{|}~", b) >= 0 {
		return `\` + string([]byte{b})
	}
	return fmt.Sprintf(`\%x `, b)
}

// modelEscaped returns a text with escapes of the bytes of a form, and of the one at an index.
func modelEscaped(s string, escaped *regexp.Regexp, at int) string {
	var all strings.Builder
	for i := range len(s) {
		// As bytes of 128 and more are never escaped, they need not be runes.
		if i == at || s[i] < 128 && escaped.MatchString(s[i:i+1]) {
			all.WriteString(modelEscape(s[i]))
		} else {
			all.WriteByte(s[i])
		}
	}
	return all.String()
}

func modelName(s string, at int) string { return modelEscaped(s, inName, at) }

func modelFreeName(s string) string { return modelName(s, len(frontForm.FindString(s))-1) }

func modelNumber(n int64, whole bool) string {
	sign := ""
	if n < 0 {
		sign, n = "-", -n
	}
	if whole {
		return fmt.Sprintf("%s%d", sign, n/1000)
	}
	s := fmt.Sprintf("%s%d.%03d", sign, n/1000, n%1000)
	for strings.HasSuffix(s, "0") && !strings.HasSuffix(s, ".0") {
		s = s[:len(s)-1]
	}
	return s
}

func modelOne(x api.Token) string {
	switch x.Kind {
	case api.TokIdent:
		return modelFreeName(x.Text)
	case api.TokFunction:
		return modelFreeName(x.Text) + "("
	case api.TokAt:
		return "@" + modelFreeName(x.Text)
	case api.TokHash:
		if x.Flag {
			return "#" + modelFreeName(x.Text)
		}
		return "#" + modelName(x.Text, -1)
	case api.TokString:
		return `"` + modelEscaped(x.Text, inString, -1) + `"`
	case api.TokURL:
		return "url(" + modelEscaped(x.Text, inURL, -1) + ")"
	case api.TokNumber:
		return modelNumber(x.Num, x.Flag)
	case api.TokPercent:
		return modelNumber(x.Num, x.Num%1000 == 0) + "%"
	case api.TokDimension:
		if exponentForm.MatchString(x.Unit) {
			return modelNumber(x.Num, x.Flag) + modelName(x.Unit, 0)
		}
		return modelNumber(x.Num, x.Flag) + modelFreeName(x.Unit)
	case api.TokDelim:
		return x.Text
	}
	return [...]string{api.TokSpace: " ", api.TokCDO: "<!--", api.TokCDC: "-->", api.TokColon: ":", api.TokSemicolon: ";", api.TokComma: ",",
		api.TokOpenSquare: "[", api.TokCloseSquare: "]", api.TokOpenParen: "(", api.TokCloseParen: ")", api.TokOpenCurly: "{", api.TokCloseCurly: "}"}[x.Kind]
}

// modelPiece returns the text of the first piece, and how many tokens it has.
func modelPiece(l []api.Token) (string, int) {
	if l[0] == backslash {
		return "\\\n", 2
	}
	s, n := modelOne(l[0]), 1
	if l[0].Kind == api.TokFunction && input.Lower(l[0].Text) == "url" {
		for n == 1 || l[n-1].Kind != api.TokString {
			s += modelOne(l[n])
			n++
		}
	}
	return s, n
}

func modelWrite(l []api.Token) (string, api.Errno) {
	text, at := "", 0
	for at < len(l) {
		piece, n := modelPiece(l[at:])
		at += n
		if len(text)+len(piece) > 4000 {
			return "", api.ErrLong
		}
		if got, e := token.Tokens(text + piece); e != api.OK || !slices.Equal(got, l[:at]) {
			text += "/**/"
		}
		text += piece
	}
	if len(text) > 4000 {
		return "", api.ErrLong
	}
	return text, api.OK
}

// near are tokens that may grow together with what is beside them.
func near() [][]api.Token {
	return [][]api.Token{
		list(ident("e")), list(ident("--")), list(ident("-")), list(ident("1")), list(at("-a")), list(idHash("a")), list(hash("-")),
		list(delim("-")), list(delim("+")), list(delim(".")), list(delim("@")), list(delim("#")), list(delim("<")), list(delim("!")),
		list(delim(">")), list(delim("/")), list(delim("*")), list(delim("%")), list(backslash, space), list(space), list(cdc), list(openParen),
		list(whole(1000)), list(whole(-1000)), list(broken(500)), list(wholeOf(1000, "e")), list(wholeOf(2000, "e-")),
		list(function("url"), space, str("a")),
	}
}

// pieces are the pieces that there are, by what may stand at both of their ends.
func pieces() [][]api.Token {
	l := append(near(),
		list(ident("a")), list(ident("-a")), list(ident("url")), list(ident("u")), list(ident("\u00e9")), list(ident("-1")), list(ident("a b")), list(ident("E")),
		list(function("f")), list(function("-")), list(function("urls")), list(function("URL"), str("")), list(at("a")), list(at("-")), list(at("1")), list(at("--")),
		list(idHash("-")), list(idHash("1")), list(idHash("--")), list(hash("1")), list(hash("-1")), list(hash("0 ")),
		list(str("")), list(str("\"\\\n")), list(str("*/")), list(url("")), list(url(" )")), list(url("/*")),
		list(percent(1000)), list(percent(-1500)), list(broken(-2000)), list(whole(0)),
		list(wholeOf(1000, "px")), list(brokenOf(-500, "E-1")), list(wholeOf(1000, "-")), list(wholeOf(1000, "--")), list(wholeOf(3000, "e1")), list(brokenOf(1000, "%")),
		list(cdo), list(delim("=")), list(delim("?")), list(delim("\x01")), list(delim("\x7f")), list(delim("|")), list(delim("$")))
	for kind := api.TokColon; kind <= api.TokCloseCurly; kind++ {
		l = append(l, list(mark(kind)))
	}
	return l
}

// each calls f with all lists of at most most of the pieces.
func each(pieces [][]api.Token, most int, f func(l []api.Token)) {
	var grow func(l []api.Token, left int)
	grow = func(l []api.Token, left int) {
		f(l)
		if left == 0 {
			return
		}
		for _, p := range pieces {
			grow(append(slices.Clip(l), p...), left-1)
		}
	}
	grow(nil, most)
}

// eachList calls f with many lists of tokens that can be written.
func eachList(f func(l []api.Token)) {
	each(pieces(), 2, f)
	each(near(), 3, f)
	few := [][]api.Token{list(ident("--")), list(whole(1000)), list(wholeOf(1000, "e")), list(delim("<")), list(delim("!")), list(delim("-")),
		list(delim("+")), list(delim(".")), list(delim("@")), list(backslash, space)}
	each(few, 4, f)
	random := rand.New(rand.NewSource(3))
	all := pieces()
	for range 3000 {
		var l []api.Token
		for range random.Intn(20) {
			l = append(l, all[random.Intn(len(all))]...)
		}
		f(l)
	}
}

func TestWriteIsLikeTheModel(t *testing.T) {
	eachList(func(l []api.Token) {
		want, _ := modelWrite(l)
		if got, e := glue.Write(l); e != api.OK || got != want {
			t.Fatalf("Write(%+v) = %q, %v; want %q", l, got, e, want)
		}
	})
}

func TestLongListsAreLikeTheModel(t *testing.T) {
	random := rand.New(rand.NewSource(33))
	all := pieces()
	tooLong := 0
	for i := range 40 {
		l := list(ident(strings.Repeat("a", 1+100*i)))
		for range 300 + random.Intn(300) {
			l = append(l, all[random.Intn(len(all))]...)
		}
		want, wanted := modelWrite(l)
		got, e := glue.Write(l)
		if e != wanted || got != want {
			t.Fatalf("Write of %d tokens: %d bytes, %v; want %d, %v", len(l), len(got), e, len(want), wanted)
		}
		if e == api.ErrLong {
			tooLong++
		}
	}
	if tooLong < 10 || tooLong > 30 {
		t.Error("texts too long:", tooLong)
	}
}

func TestOneIsLikeTheModel(t *testing.T) {
	random := rand.New(rand.NewSource(333))
	for range 20000 {
		b := make([]byte, 1+random.Intn(6))
		for i := range b {
			const some = "eE-0195az_ .\n\f\r\t\"'\\()#\x01\x7f\x80\xff"
			b[i] = some[random.Intn(len(some))]
		}
		s, n := string(b), random.Int63n(4000)-2000
		for _, x := range list(ident(s), function(s), at(s), idHash(s), hash("7"+s), hash("-7"+s), str(s), url(s),
			broken(n), percent(n), percent(n*1000), whole(n*1000), brokenOf(n, s), wholeOf(n*1000, s)) {
			if got, e := glue.One(x); e != api.OK || got != modelOne(x) {
				t.Fatalf("One(%+v) = %q, %v; want %q", x, got, e, modelOne(x))
			}
		}
		if got, e := glue.Name(s); e != api.OK || got != modelFreeName(s) {
			t.Fatalf("Name(%q) = %q, %v; want %q", s, got, e, modelFreeName(s))
		}
	}
}

// P3.3

func TestWhatIsWrittenIsReadAsTheSame(t *testing.T) {
	eachList(func(l []api.Token) {
		s, _ := glue.Write(l)
		if got, e := token.Tokens(s); e != api.OK || !slices.Equal(got, l) {
			t.Fatalf("%+v is written %q, and read %+v, %v", l, s, got, e)
		}
		if clean, e := input.Clean(s); e != api.OK || clean != s {
			t.Fatalf("%+v is written %q, which is not clean", l, s)
		}
	})
}

func TestCommentsStandOnlyWhereTheyHaveTo(t *testing.T) {
	eachList(func(l []api.Token) {
		s, _ := glue.Write(l)
		spans, _ := token.Spans(s)
		end := 0
		for _, span := range spans {
			gap := s[end:span[0]]
			if gap != "" && (gap != "/**/" || end == 0) {
				t.Fatalf("%+v is written %q, with %q before %d", l, s, gap, span[0])
			}
			if got, e := token.Tokens(s[:end] + s[span[0]:]); gap != "" && e == api.OK && slices.Equal(got, l) {
				t.Fatalf("%+v is written %q, and needs no comment before %d", l, s, span[0])
			}
			end = span[1]
		}
		if end != len(s) {
			t.Fatalf("%+v is written %q, with %q at the end", l, s, s[end:])
		}
	})
}

// eachText calls f with many texts, with bytes of all kinds and with what comes out of pieces.
func eachText(f func(s string)) {
	random := rand.New(rand.NewSource(3333))
	for range 20000 {
		b := make([]byte, random.Intn(24))
		for i := range b {
			const some = " \n\t\f\r\x00\"'#@+-.eE%/*\\()<>!uUrRlL019aZ_~:;,[]{}\x01\x1f\x7f\x80\xff"
			b[i] = some[random.Intn(len(some))]
		}
		f(string(b))
	}
	parts := []string{"url(", "URL( ", `u\72 l(`, "'a'", `"\"`, ")", " ", "\\\n", "\\", "a\\\r", "-", "--", "-->", "<!", "<!--", "1", "1e3", "1e", ".5", "+",
		"9999999999.5", "50.50%", "#1", "#-", "#\\-", "@a", "@", "/**/", "/* c */", "\\31 ", "\\0", "\\a", "\\7f", "a b", "f(", ":", "{", "}", "!", "1.5\\65 3", "\xc3\xa9"}
	for range 20000 {
		s := ""
		for range random.Intn(9) {
			s += parts[random.Intn(len(parts))]
		}
		f(s)
	}
}

func isBad(x api.Token) bool { return x.Kind == api.TokBadString || x.Kind == api.TokBadURL }

func TestTokensOfTextsAreWritten(t *testing.T) {
	eachText(func(s string) {
		l, _ := token.Tokens(s)
		if slices.ContainsFunc(l, isBad) {
			if e := glue.Check(l); e != api.ErrBad {
				t.Fatalf("%q has bad tokens, and Check says %v", s, e)
			}
			return
		}
		if e := glue.Check(l); e != api.OK {
			t.Fatalf("Check(%+v) = %v; they are those of %q", l, e, s)
		}
		once, e := glue.Write(l)
		want, _ := modelWrite(l)
		if e != api.OK || once != want {
			t.Fatalf("%q is written %q, %v; want %q", s, once, e, want)
		}
		again, e := token.Tokens(once)
		if e != api.OK || !slices.Equal(again, l) {
			t.Fatalf("%q is written %q, and read %+v, %v", s, once, again, e)
		}
		if twice, e := glue.Write(again); e != api.OK || twice != once {
			t.Fatalf("%q is written %q, and once more %q, %v", s, once, twice, e)
		}
	})
}

func TestNamesAreReadAsTheSame(t *testing.T) {
	check := func(s string) {
		text, e := glue.Name(s)
		if e != api.OK {
			t.Fatalf("Name(%q): %v", s, e)
		}
		if got, e := token.Name(text); e != api.OK || got != s {
			t.Fatalf("%q is written %q, and read %q, %v", s, text, got, e)
		}
		if one, e := glue.One(ident(s)); e != api.OK || one != text {
			t.Fatalf("the name %q is %q, and its ident %q, %v", s, text, one, e)
		}
	}
	const some = "-1eE9aF_ .\\\n\f\r\x01\x7f\x80\xff"
	for _, a := range []byte(some) {
		check(string([]byte{a}))
		for b := 1; b < 256; b++ {
			check(string([]byte{a, byte(b)}))
			check(string([]byte{byte(b), a}))
			check(string([]byte{'-', a, byte(b)}))
			check(string([]byte{'a', byte(b), a}))
		}
	}
}

// shuffled are tokens of any shape.
func shuffled(random *rand.Rand) api.Token {
	texts := []string{"", "", "a", "url", "URL", `\`, "\x00", "-", "1", "-1", ".", "e1", " ", "\xff", "a\x00", "\n"}
	numbers := []int64{0, 0, 1, 1000, -1500, most, most + 1000, -1 << 63, 1<<63 - 1}
	return api.Token{
		Kind: uint8(random.Intn(27)),
		Text: texts[random.Intn(len(texts))],
		Num:  numbers[random.Intn(len(numbers))],
		Unit: texts[random.Intn(len(texts))],
		Flag: random.Intn(2) == 0,
	}
}

// P1: for all arguments, and with an error there is no text.
func TestAnyTokens(t *testing.T) {
	random := rand.New(rand.NewSource(33333))
	good := 0
	for range 100000 {
		l := make([]api.Token, random.Intn(3))
		for i := range l {
			l[i] = shuffled(random)
		}
		e := glue.Check(l)
		s, wrote := glue.Write(l)
		if wrote != e || e != api.OK && (e != api.ErrBad || s != "") {
			t.Fatalf("Check(%+v) = %v, Write: %q, %v", l, e, s, wrote)
		}
		if got, read := token.Tokens(s); e == api.OK && (read != api.OK || !slices.Equal(got, l)) {
			t.Fatalf("%+v is written %q, and read %+v, %v", l, s, got, read)
		}
		if e == api.OK && len(l) > 0 {
			good++
		}
		for _, x := range l {
			one, e := glue.One(x)
			if e != api.OK && (e != api.ErrBad || one != "") {
				t.Fatalf("One(%+v) = %q, %v", x, one, e)
			}
		}
	}
	if good < 100 {
		t.Error("tokens that could be written:", good)
	}
}
