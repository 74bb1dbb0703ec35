package token

import (
	"math/big"
	"math/rand"
	"regexp"
	"slices"
	"strconv"
	"strings"
	"testing"

	"vitrine/api"
	"vitrine/input"
)

// The model: the rules of the chapter as patterns, tried in their order at each place.
const (
	escapeForm = `\\(?:[0-9a-fA-F]{1,6}[\n\t ]?|[^\n0-9a-fA-F]|\z)`
	startForm  = `(?:[a-zA-Z_]|[^\x00-\x7f]|` + escapeForm + `)`
	onForm     = `(?:[-0-9a-zA-Z_]|[^\x00-\x7f]|` + escapeForm + `)`
	nameForm   = `(?:--|-?` + startForm + `)` + onForm + `*`
	numberForm = `[-+]?(?:[0-9]+(?:\.[0-9]+)?|\.[0-9]+)(?:[eE][-+]?[0-9]+)?`
	urlForm    = `[\n\t ]*((?:[^\x00-\x20\x7f"'()\\]|` + escapeForm + `)*)[\n\t ]*(?:\)|\z)`
	badURLForm = `(?:[^)\\]|\\\n|` + escapeForm + `)*(?:\)|\z)`
)

func pattern(s string) *regexp.Regexp { return regexp.MustCompile(`\A(?:` + s + `)`) }

var (
	commentAt  = pattern(`/\*(?s:.*?)(?:\*/|\z)`)
	spaceAt    = pattern(`[\n\t ]+`)
	doubleAt   = pattern(`"((?:[^"\n\\]|\\\n|` + escapeForm + `)*)("|\n|\z)`)
	singleAt   = pattern(`'((?:[^'\n\\]|\\\n|` + escapeForm + `)*)('|\n|\z)`)
	hashAt     = pattern(`#(` + onForm + `+)`)
	numericAt  = pattern(`(` + numberForm + `)(?:(%)|(` + nameForm + `)|)`)
	unitAt     = pattern(`(` + numberForm + `)(` + nameForm + `)`)
	pageAt     = pattern(`-->|<!--`)
	atAt       = pattern(`@(` + nameForm + `)`)
	nameAt     = pattern(nameForm)
	urlAt      = pattern(urlForm)
	badURLAt   = pattern(badURLForm)
	quoteAt    = pattern(`[\n\t ]*["']`)
	aloneEnd   = regexp.MustCompile(`\\\z`)
	escape     = regexp.MustCompile(escapeForm)
	inString   = regexp.MustCompile(`\\\n|` + escapeForm)
	tooGreat   = regexp.MustCompile(`[eE][-+]?[0-9]{4}`)
	gap        = regexp.MustCompile(`\A(?:/\*(?s:.*?)\*/)*(?:/\*(?s:.*))?\z`)
	wholeForm  = regexp.MustCompile(`\A[-+]?[0-9]+\z`)
	wholeName  = regexp.MustCompile(`\A(?:` + nameForm + `)\z`)
	wholeValue = regexp.MustCompile(`\A(?:` + numberForm + `)\z`)
)

func unescaped(s string) string {
	return escape.ReplaceAllStringFunc(s, func(s string) string {
		s = s[1:]
		if s == "" {
			return replaced
		}
		n, err := strconv.ParseInt(strings.TrimRight(s, "\n\t "), 16, 32)
		if err != nil {
			return s
		}
		if n == 0 || n >= 55296 && n <= 57343 || n > 1114111 {
			return replaced
		}
		return string(rune(n))
	})
}

func unescapedString(s string) string {
	// A lone backslash at the end stands for nothing, a pair is an escape.
	if trail := len(s) - len(strings.TrimRight(s, `\`)); trail%2 == 1 {
		s = aloneEnd.ReplaceAllString(s, "")
	}
	return inString.ReplaceAllStringFunc(s, func(s string) string {
		if s == "\\\n" {
			return ""
		}
		return unescaped(s)
	})
}

func modelValue(s string) (int64, bool) {
	r, ok := new(big.Rat).SetString(strings.TrimPrefix(s, "+"))
	if !ok {
		panic(s)
	}
	r.Mul(r, big.NewRat(1000, 1))
	n := new(big.Int).Quo(r.Num(), r.Denom())
	most := big.NewInt(1000000000000)
	if n.CmpAbs(most) > 0 {
		most.Mul(most, big.NewInt(int64(n.Sign())))
		n = most
	}
	return n.Int64(), wholeForm.MatchString(s)
}

func modelString(s string, form *regexp.Regexp) (api.Token, int) {
	m := form.FindStringSubmatch(s)
	if m[2] == "\n" {
		return badString, len(m[0]) - 1
	}
	return str(unescapedString(m[1])), len(m[0])
}

func modelNumeric(s string) (api.Token, int) {
	if m := unitAt.FindStringSubmatch(s); m != nil {
		// What the number takes is not left to the unit.
		number := numericAt.FindStringSubmatch(s)[1]
		if number == m[1] {
			n, integer := modelValue(number)
			return api.Token{Kind: api.TokDimension, Num: n, Unit: unescaped(m[2]), Flag: integer}, len(m[0])
		}
	}
	m := numericAt.FindStringSubmatch(s)
	n, integer := modelValue(m[1])
	if m[2] == "%" {
		return percent(n), len(m[0])
	}
	return api.Token{Kind: api.TokNumber, Num: n, Flag: integer}, len(m[1])
}

func modelNamed(s string) (api.Token, int) {
	m := nameAt.FindString(s)
	name, rest := unescaped(m), s[len(m):]
	if !strings.HasPrefix(rest, "(") {
		return ident(name), len(m)
	}
	inside, end := rest[1:], len(m)+1
	if input.Lower(name) != "url" || quoteAt.MatchString(inside) {
		return function(name), end
	}
	if u := urlAt.FindStringSubmatch(inside); u != nil {
		return url(unescaped(u[1])), end + len(u[0])
	}
	return badURL, end + len(badURLAt.FindString(inside))
}

func modelToken(s string) (api.Token, int) {
	switch {
	case spaceAt.MatchString(s):
		return space, len(spaceAt.FindString(s))
	case s[0] == '"':
		return modelString(s, doubleAt)
	case s[0] == '\'':
		return modelString(s, singleAt)
	case hashAt.MatchString(s):
		m := hashAt.FindStringSubmatch(s)
		return api.Token{Kind: api.TokHash, Text: unescaped(m[1]), Flag: nameAt.MatchString(s[1:])}, len(m[0])
	case numericAt.MatchString(s):
		return modelNumeric(s)
	case pageAt.MatchString(s):
		if s[0] == '-' {
			return cdc, 3
		}
		return cdo, 4
	case atAt.MatchString(s):
		m := atAt.FindStringSubmatch(s)
		return at(unescaped(m[1])), len(m[0])
	case nameAt.MatchString(s):
		return modelNamed(s)
	}
	if i := strings.IndexByte(":;,[](){}", s[0]); i >= 0 {
		return api.Token{Kind: api.TokColon + uint8(i)}, 1
	}
	return delim(s[:1]), 1
}

func model(s string) (tokens []api.Token, spans [][2]int) {
	for i := 0; i < len(s); {
		if comment := commentAt.FindString(s[i:]); comment != "" {
			i += len(comment)
			continue
		}
		t, length := modelToken(s[i:])
		tokens = append(tokens, t)
		spans = append(spans, [2]int{i, i + length})
		i += length
	}
	return tokens, spans
}

// each calls f with all texts of at most most of the pieces.
func each(most int, f func(s string), pieces ...string) {
	var grow func(s string, left int)
	grow = func(s string, left int) {
		f(s)
		if left == 0 {
			return
		}
		for _, p := range pieces {
			grow(s+p, left-1)
		}
	}
	grow("", most)
}

// eachText calls f with many short texts, which have all that the rules tell apart.
func eachText(f func(s string)) {
	each(5, f, "-", ">", "<!--", "a", "1", "\\", "\n")
	each(5, f, "1", ".", "e", "+", "-", "%", "0")
	each(5, f, "\"", "'", "\\", "\n", "6", " ", "a")
	each(5, f, "url(", ")", " ", "\\", "\"", "\n", "1")
	each(5, f, "url(", "u", "(", ")", "\\29 ", "\x7f", "'")
	each(5, f, "/", "*", "a", " ", "'", "/*")
	each(5, f, "#", "@", "-", "\\", "\xc3\xa9", "1", "(")
	each(4, f, "\\", "00006", "1", "d800", "f", " ", "\t", "g", "\xff")
	each(3, f, ":", ";", ",", "[", "]", "(", ")", "{", "}", "!", "\x01", "_", "Z")
	random := rand.New(rand.NewSource(2))
	for range 20000 {
		b := make([]byte, random.Intn(24))
		for i := range b {
			const bytes = " \n\t\"'#@+-.eE%/*\\()<>!uUrRlL019aZ_~:;,[]{}\x01\x1f\x7f\x80\xff"
			b[i] = bytes[random.Intn(len(bytes))]
		}
		f(string(b))
	}
}

func TestTokensAreLikeTheModel(t *testing.T) {
	eachText(func(s string) {
		tokens, spans := model(s)
		if got, e := Tokens(s); e != api.OK || !slices.Equal(got, tokens) {
			t.Fatalf("Tokens(%q) = %+v, %v; want %+v", s, got, e, tokens)
		}
		if got, e := Spans(s); e != api.OK || !slices.Equal(got, spans) {
			t.Fatalf("Spans(%q) = %v, %v; want %v", s, got, e, spans)
		}
	})
}

func TestValuesAndNamesAreLikeTheModel(t *testing.T) {
	eachText(func(s string) {
		wantName, wantNone := "", api.ErrForm
		if wholeName.MatchString(s) {
			wantName, wantNone = unescaped(s), api.OK
		}
		if got, e := Name(s); got != wantName || e != wantNone {
			t.Fatalf("Name(%q) = %q, %v; want %q, %v", s, got, e, wantName, wantNone)
		}
		var want int64
		wantInteger, wantError := false, api.ErrForm
		if wholeValue.MatchString(s) {
			want, wantInteger = modelValue(s)
			wantError = api.OK
		}
		if n, integer, e := Value(s); n != want || integer != wantInteger || e != wantError {
			t.Fatalf("Value(%q) = %d, %v, %v; want %d, %v, %v", s, n, integer, e, want, wantInteger, wantError)
		}
	})
}

// P2.3

func TestTokensCoverTheTextOnce(t *testing.T) {
	eachText(func(s string) {
		tokens, _ := Tokens(s)
		spans, _ := Spans(s)
		if len(tokens) != len(spans) {
			t.Fatalf("%q: %d tokens, %d spans", s, len(tokens), len(spans))
		}
		end := 0
		for i, span := range spans {
			if span[0] < end || span[1] <= span[0] || !gap.MatchString(s[end:span[0]]) {
				t.Fatalf("%q: the span %v behind %d", s, span, end)
			}
			if i > 0 && tokens[i-1] == space && tokens[i] == space && span[0] == end {
				t.Fatalf("%q: two spaces side by side at %d", s, end)
			}
			end = span[1]
		}
		if end > len(s) || !gap.MatchString(s[end:]) {
			t.Fatalf("%q: %q is left", s, s[end:])
		}
	})
}

func TestTokensAreMadeOneByOne(t *testing.T) {
	eachText(func(s string) {
		tokens, _ := Tokens(s)
		spans, _ := Spans(s)
		for i, span := range spans {
			rest, e := Tokens(s[span[1]:])
			if e != api.OK || !slices.Equal(rest, tokens[i+1:]) {
				t.Fatalf("%q: behind %d there are %+v, %v", s, span[1], rest, e)
			}
		}
	})
}

func TestWhatIsNotUsedIsEmpty(t *testing.T) {
	named := []uint8{api.TokIdent, api.TokFunction, api.TokAt, api.TokHash, api.TokDelim}
	texts := []uint8{api.TokString, api.TokURL}
	numbers := []uint8{api.TokNumber, api.TokPercent, api.TokDimension}
	flagged := []uint8{api.TokHash, api.TokNumber, api.TokDimension}
	eachText(func(s string) {
		tokens, _ := Tokens(s)
		for _, x := range tokens {
			switch {
			case x.Kind < api.TokIdent || x.Kind > api.TokCloseCurly,
				slices.Contains(named, x.Kind) && x.Text == "",
				x.Text != "" && !slices.Contains(named, x.Kind) && !slices.Contains(texts, x.Kind),
				x.Num != 0 && !slices.Contains(numbers, x.Kind),
				(x.Unit != "") != (x.Kind == api.TokDimension),
				x.Flag && !slices.Contains(flagged, x.Kind):
				t.Fatalf("%q has %+v", s, x)
			}
		}
	})
}

func TestTokensAreThoseOfTheCleanedText(t *testing.T) {
	each(4, func(s string) {
		clean, _ := input.Clean(s)
		want, _ := Tokens(clean)
		if got, e := Tokens(s); e != api.OK || !slices.Equal(got, want) {
			t.Fatalf("Tokens(%q) = %+v, %v; want %+v", s, got, e, want)
		}
		there, _ := Spans(clean)
		if got, e := Spans(s); e != api.OK || !slices.Equal(got, there) {
			t.Fatalf("Spans(%q) = %v, %v; want %v", s, got, e, there)
		}
	}, "\r", "\n", "\f", "\x00", "\\", "'", "a", "url(")
}

func FuzzTokens(f *testing.F) {
	for _, s := range []string{"a.b{color:#f00}", `url(a\) b`, "\"a\\\n", "-1.5e+3%", "\r\f\x00", "<!-- @a -->"} {
		f.Add(s)
	}
	f.Fuzz(func(t *testing.T, s string) {
		clean, e := input.Clean(s)
		if e != api.OK || len(clean) > 200 {
			return
		}
		if tooGreat.MatchString(clean) {
			return // the model would have to write such a number out
		}
		tokens, spans := model(clean)
		if got, e := Tokens(s); e != api.OK || !slices.Equal(got, tokens) {
			t.Fatalf("Tokens(%q) = %+v, %v; want %+v", s, got, e, tokens)
		}
		if got, e := Spans(s); e != api.OK || !slices.Equal(got, spans) {
			t.Fatalf("Spans(%q) = %v, %v; want %v", s, got, e, spans)
		}
	})
}
