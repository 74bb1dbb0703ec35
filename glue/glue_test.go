package glue_test

import (
	"math"
	"slices"
	"strings"
	"testing"

	"vitrine/api"
	"vitrine/glue"
	"vitrine/token"
)

const most = 1000000000000

func ident(s string) api.Token    { return api.Token{Kind: api.TokIdent, Text: s} }
func function(s string) api.Token { return api.Token{Kind: api.TokFunction, Text: s} }
func at(s string) api.Token       { return api.Token{Kind: api.TokAt, Text: s} }
func idHash(s string) api.Token   { return api.Token{Kind: api.TokHash, Text: s, Flag: true} }
func hash(s string) api.Token     { return api.Token{Kind: api.TokHash, Text: s} }
func str(s string) api.Token      { return api.Token{Kind: api.TokString, Text: s} }
func url(s string) api.Token      { return api.Token{Kind: api.TokURL, Text: s} }
func delim(s string) api.Token    { return api.Token{Kind: api.TokDelim, Text: s} }
func whole(n int64) api.Token     { return api.Token{Kind: api.TokNumber, Num: n, Flag: true} }
func broken(n int64) api.Token    { return api.Token{Kind: api.TokNumber, Num: n} }
func percent(n int64) api.Token   { return api.Token{Kind: api.TokPercent, Num: n} }
func mark(kind uint8) api.Token   { return api.Token{Kind: kind} }

func wholeOf(n int64, unit string) api.Token {
	return api.Token{Kind: api.TokDimension, Num: n, Unit: unit, Flag: true}
}

func brokenOf(n int64, unit string) api.Token {
	return api.Token{Kind: api.TokDimension, Num: n, Unit: unit}
}

var (
	space     = mark(api.TokSpace)
	cdo       = mark(api.TokCDO)
	cdc       = mark(api.TokCDC)
	colon     = mark(api.TokColon)
	openParen = mark(api.TokOpenParen)
	closing   = mark(api.TokCloseParen)
	backslash = delim(`\`)
)

func list(l ...api.Token) []api.Token { return l }

func oneByte(b int) string { return string([]byte{byte(b)}) }

// samples has a token of each kind that can be written.
func samples() []api.Token {
	l := list(ident("a"), function("a"), at("a"), hash("1"), idHash("a"), str("a"), url("a"), delim("."),
		whole(1000), broken(1), percent(1), wholeOf(1000, "a"), brokenOf(1, "a"), space)
	for kind := api.TokCDO; kind <= api.TokCloseCurly; kind++ {
		l = append(l, mark(kind))
	}
	return l
}

// shape checks what Check and One say of a token alone.
func shape(t *testing.T, x api.Token, good bool) {
	t.Helper()
	want := api.ErrBad
	if good {
		want = api.OK
	}
	if e := glue.Check(list(x)); e != want {
		t.Errorf("Check of %+v: %v, want %v", x, e, want)
	}
	s, e := glue.One(x)
	if e != want || (s == "") == good {
		t.Errorf("One(%+v) = %q, %v; want %v", x, s, e, want)
	}
}

// P3.1: the shapes of tokens.

func TestSamplesCanBeWritten(t *testing.T) {
	for _, x := range samples() {
		shape(t, x, true)
	}
}

func TestOtherKindsCannotBeWritten(t *testing.T) {
	kinds := []uint8{0, api.TokBadString, api.TokBadURL}
	for kind := 25; kind < 256; kind++ {
		kinds = append(kinds, uint8(kind))
	}
	for _, x := range samples() {
		for _, kind := range kinds {
			shape(t, mark(kind), false)
			x.Kind = kind
			shape(t, x, false)
		}
	}
}

func TestWhatAKindDoesNotUse(t *testing.T) {
	texts := []uint8{api.TokIdent, api.TokFunction, api.TokAt, api.TokHash, api.TokString, api.TokURL, api.TokDelim}
	numbers := []uint8{api.TokNumber, api.TokPercent, api.TokDimension}
	flagged := []uint8{api.TokNumber, api.TokDimension, api.TokHash}
	for _, x := range samples() {
		if !slices.Contains(texts, x.Kind) {
			y := x
			y.Text = "a"
			shape(t, y, false)
		}
		if !slices.Contains(numbers, x.Kind) {
			for _, n := range []int64{1, 1000, -1000} {
				y := x
				y.Num = n
				shape(t, y, false)
			}
		}
		if x.Kind != api.TokDimension {
			y := x
			y.Unit = "a"
			shape(t, y, false)
		}
		if !slices.Contains(flagged, x.Kind) {
			y := x
			y.Flag = true
			shape(t, y, false)
		}
	}
	shape(t, api.Token{Kind: api.TokPercent, Num: 1000, Flag: true}, false)
}

func TestTextsMayNotHaveAByteZero(t *testing.T) {
	for _, s := range []string{"a\x00", "\x00a", "a\x00b", "\x00"} {
		for _, x := range list(ident(s), function(s), at(s), idHash(s), hash("1"+s), str(s), url(s), delim(s), wholeOf(0, s), brokenOf(1, s)) {
			shape(t, x, false)
		}
	}
}

func TestNamesAreNotEmpty(t *testing.T) {
	for _, x := range list(ident(""), function(""), at(""), idHash(""), hash(""), delim(""), wholeOf(0, ""), brokenOf(1, "")) {
		shape(t, x, false)
	}
	for _, x := range list(str(""), url("")) {
		shape(t, x, true)
	}
}

func TestNamesHaveAnyOtherByte(t *testing.T) {
	for b := 1; b < 256; b++ {
		s := oneByte(b)
		for _, x := range list(ident(s), function(s), at(s), idHash(s), str(s), url(s), wholeOf(0, s), brokenOf(1, s)) {
			shape(t, x, true)
		}
	}
}

func TestHashesWithoutFlag(t *testing.T) {
	for s, good := range map[string]bool{
		"0": true, "9": true, "1a": true, "1 \xff": true, "-": true, "-0": true, "-9a": true, "-1\n": true,
		"a": false, "-a": false, "--": false, "--1": false, "_": false, "_1": false, "-_": false, " ": false,
		" 1": false, "- ": false, "-.": false, "+1": false, "\xff": false, "-\xff": false, ".1": false, "/": false, ":": false,
	} {
		shape(t, hash(s), good)
		shape(t, idHash(s), true)
	}
}

func TestNumbersInTheirRange(t *testing.T) {
	for n, good := range map[int64]bool{
		0: true, 1: true, -1: true, 999: true, 1000: true, -1000: true, 1500: true,
		most: true, -most: true, most - 1: true, 1 - most: true,
		most + 1: false, -most - 1: false, most + 1000: false, -most - 1000: false,
		math.MaxInt64: false, math.MinInt64: false, math.MaxInt64 / 1000 * 1000: false, math.MinInt64 / 1000 * 1000: false,
	} {
		shape(t, broken(n), good)
		shape(t, percent(n), good)
		shape(t, brokenOf(n, "a"), good)
		good = good && n%1000 == 0
		shape(t, whole(n), good)
		shape(t, wholeOf(n, "a"), good)
	}
}

func TestDelims(t *testing.T) {
	const others = "\"'_:;,[](){}abcdefghijklmnopqrstuvwxyzABCDEFGHIJKLMNOPQRSTUVWXYZ0123456789\t\n\f\r "
	for b := range 256 {
		if b == '\\' {
			continue
		}
		good := 1 <= b && b <= 127 && strings.IndexByte(others, byte(b)) < 0
		shape(t, delim(oneByte(b)), good)
	}
	for _, s := range []string{"..", ".a", "--", "<!--", "\\ ", "\u00e9", "->"} {
		shape(t, delim(s), false)
	}
}

// P3.1: what has to stand behind a token.

func TestFollowers(t *testing.T) {
	for _, c := range []struct {
		tokens []api.Token
		want   api.Errno
	}{
		{nil, api.OK},
		{list(backslash), api.ErrBad},
		{list(backslash, space), api.OK},
		{list(backslash, ident("a")), api.ErrBad},
		{list(backslash, ident("a"), space), api.ErrBad},
		{list(backslash, backslash, space), api.ErrBad},
		{list(backslash, space, backslash, space), api.OK},
		{list(backslash, space, backslash), api.ErrBad},
		{list(space, backslash), api.ErrBad},
		{list(function("url")), api.ErrBad},
		{list(function("url"), space), api.ErrBad},
		{list(function("url"), str("")), api.OK},
		{list(function("uRL"), str("a"), closing), api.OK},
		{list(function("URL"), space, str("a")), api.OK},
		{list(function("Url"), space, space, str("a")), api.ErrBad},
		{list(function("url"), url("a")), api.ErrBad},
		{list(function("url"), space, url("a")), api.ErrBad},
		{list(function("url"), closing), api.ErrBad},
		{list(function("url"), ident("a"), str("a")), api.ErrBad},
		{list(function("url"), backslash, space, str("a")), api.ErrBad},
		{list(str("a"), function("url")), api.ErrBad},
		{list(function("url"), function("url"), str("a")), api.ErrBad},
		{list(function("urls"), closing), api.OK},
		{list(function("ur"), closing), api.OK},
		{list(function("u\u0280l"), closing), api.OK},
		{list(ident("url"), closing), api.OK},
		{list(at("url"), closing), api.OK},
		{list(mark(api.TokBadString)), api.ErrBad},
		{list(ident("a"), mark(api.TokBadURL), ident("a")), api.ErrBad},
		{list(function("url"), str("\x00")), api.ErrBad},
	} {
		if e := glue.Check(c.tokens); e != c.want {
			t.Errorf("Check(%+v) = %v, want %v", c.tokens, e, c.want)
		}
		if s, e := glue.Write(c.tokens); e != c.want || c.want != api.OK && s != "" {
			t.Errorf("Write(%+v) = %q, %v, want %v", c.tokens, s, e, c.want)
		}
	}
}

func TestOneNeedsNoFollower(t *testing.T) {
	for want, x := range map[string]api.Token{`\`: backslash, "url(": function("url"), "URL(": function("URL")} {
		if s, e := glue.One(x); e != api.OK || s != want {
			t.Errorf("One(%+v) = %q, %v", x, s, e)
		}
	}
}

func TestTooManyTokens(t *testing.T) {
	for _, c := range []struct {
		token api.Token
		count int
		last  api.Token
		want  api.Errno
	}{
		{colon, 1499, colon, api.OK},
		{colon, 1500, colon, api.ErrMany},
		{colon, 3000, colon, api.ErrMany},
		{colon, 1499, mark(0), api.ErrBad},
		{colon, 1499, backslash, api.ErrBad},
		{colon, 1500, mark(0), api.ErrMany},
		{mark(0), 1499, colon, api.ErrBad},
		{mark(0), 1500, colon, api.ErrMany},
	} {
		l := append(slices.Repeat(list(c.token), c.count), c.last)
		if e := glue.Check(l); e != c.want {
			t.Errorf("Check of %d tokens %+v, and %+v: %v, want %v", c.count, c.token, c.last, e, c.want)
		}
		if s, e := glue.Write(l); e != c.want || (s == "") != (e != api.OK) {
			t.Errorf("Write of %d tokens %+v, and %+v: %d bytes, %v, want %v", c.count, c.token, c.last, len(s), e, c.want)
		}
	}
}

// P3.1: the texts of tokens.

// ones is a table of texts and the tokens that have them.
type ones map[string]api.Token

func (l ones) check(t *testing.T) {
	t.Helper()
	for want, x := range l {
		if s, e := glue.One(x); e != api.OK || s != want {
			t.Errorf("One(%+v) = %q, %v; want %q", x, s, e, want)
		}
		if x == backslash || x.Kind == api.TokFunction && strings.EqualFold(x.Text, "url") {
			continue
		}
		if s, e := glue.Write(list(x)); e != api.OK || s != want {
			t.Errorf("Write of %+v = %q, %v; want %q", x, s, e, want)
		}
	}
}

func TestTextsOfNames(t *testing.T) {
	ones{
		"a":                   ident("a"),
		"f(":                  function("f"),
		"@a":                  at("a"),
		"#a":                  idHash("a"),
		`\31 \20 a`:           ident("1 a"),
		"Ab-_9":               ident("Ab-_9"),
		"\u00e9\x80":          ident("\u00e9\x80"),
		"_":                   ident("_"),
		"-a":                  ident("-a"),
		"-_":                  ident("-_"),
		"--":                  ident("--"),
		"--1":                 ident("--1"),
		"---":                 ident("---"),
		"a1":                  ident("a1"),
		"a-1":                 ident("a-1"),
		`\-`:                  ident("-"),
		`\30 `:                ident("0"),
		`\39 9`:               ident("99"),
		`-\35 `:               ident("-5"),
		`-\30 0`:              ident("-00"),
		`-\a `:                ident("-\n"),
		`\.1`:                 ident(".1"),
		`\+1`:                 ident("+1"),
		`\1 1`:                ident("\x011"),
		`\!\"\#\$\%\&\'\(\)`:  ident(`!"#$%&'()`),
		`\*\+\,\.\/\:\;\<\=`:  ident("*+,./:;<="),
		"\\>\\?\\@\\[\\\\\\]": ident(`>?@[\]`),
		"\\^\\`\\{\\|\\}\\~":  ident("^`{|}~"),
		`\1 \8 \9 \a \b \c `:  ident("\x01\b\t\n\v\f"),
		`\d \e \f \10 \1f `:   ident("\r\x0e\x0f\x10\x1f"),
		`\20 \7f `:            ident(" \x7f"),
		`\-(`:                 function("-"),
		`-\31 (`:              function("-1"),
		`\31 st\20 place(`:    function("1st place"),
		`a\((`:                function("a("),
		`@\-`:                 at("-"),
		`@-\31 `:              at("-1"),
		`@\37 \@`:             at("7@"),
		`#\-`:                 idHash("-"),
		`#-\31 a`:             idHash("-1a"),
		`#\30 f0`:             idHash("0f0"),
		"#--":                 idHash("--"),
		"#-":                  hash("-"),
		"#-1":                 hash("-1"),
		"#-1-\\#":             hash("-1-#"),
		"#0f0":                hash("0f0"),
		`#1\20 \a \c \d `:     hash("1 \n\f\r"),
	}.check(t)
}

func TestEachByteOfNames(t *testing.T) {
	const (
		letters = "abcdefghijklmnopqrstuvwxyzABCDEFGHIJKLMNOPQRSTUVWXYZ_"
		digits  = "0123456789"
		marks   = "!\"#$%&'()*+,./:;<=>?@[\\]^`{|}~"
		hex     = "0123456789abcdef"
	)
	for b := 1; b < 256; b++ {
		s := oneByte(b)
		code := oneByte(int(hex[b%16]))
		if b >= 16 {
			code = oneByte(int(hex[b/16])) + code
		}
		first, second, later := s, s, s
		switch {
		case strings.Contains(letters, s), b >= 128:
		case strings.Contains(digits, s):
			first = `\` + code + " "
			second = first
		case s == "-":
			first = s
		case strings.Contains(marks, s):
			first = `\` + s
			second, later = first, first
		default:
			first = `\` + code + " "
			second, later = first, first
		}
		ones{
			first + "a":        ident(s + "a"),
			"-" + second:       ident("-" + s),
			"a" + later:        ident("a" + s),
			"a-" + later:       ident("a-" + s),
			"@" + first + "a":  at(s + "a"),
			"1" + first + "b":  wholeOf(1000, s+"b"),
			"1-" + second:      wholeOf(1000, "-"+s),
			"#" + first + "a":  idHash(s + "a"),
			"#-" + second:      idHash("-" + s),
			"#1" + later:       hash("1" + s),
			"#-1" + later:      hash("-1" + s),
			first + "a" + "(":  function(s + "a"),
			"1.5q" + later:     brokenOf(1500, "q"+s),
			"--" + later + "(": function("--" + s),
		}.check(t)
	}
}

func TestTextsOfStrings(t *testing.T) {
	ones{
		`""`:                         str(""),
		`"a"`:                        str("a"),
		`"a\"\a "`:                   str("a\"\n"),
		`"'"`:                        str("'"),
		`"\\"`:                       str(`\`),
		`"\c \d \a "`:                str("\f\r\n"),
		"\"\x01\t\v\x1f \x7f\x80\"":  str("\x01\t\v\x1f \x7f\x80"),
		`"/*1a!#$%&()+,-.:;<>[]{}~"`: str("/*1a!#$%&()+,-.:;<>[]{}~"),
	}.check(t)
	for b := 1; b < 256; b++ {
		want := oneByte(b)
		switch want {
		case "\n":
			want = `\a `
		case "\f":
			want = `\c `
		case "\r":
			want = `\d `
		case `"`, `\`:
			want = `\` + want
		}
		ones{`"` + want + `1"`: str(oneByte(b) + "1")}.check(t)
	}
}

func TestTextsOfURLs(t *testing.T) {
	ones{
		"url()":                 url(""),
		"url(a.png)":            url("a.png"),
		"url(a.b/c?d=e#f)":      url("a.b/c?d=e#f"),
		`url(\20 \9 \a )`:       url(" \t\n"),
		`url(\"\'\(\)\\)`:       url(`"'()\`),
		`url(\1 \8 \b \c \d )`:  url("\x01\b\v\f\r"),
		`url(\e \1f \7f )`:      url("\x0e\x1f\x7f"),
		"url(\x80\xff1-)":       url("\x80\xff1-"),
		"url(/**/!,:;[]{}<>@~)": url("/**/!,:;[]{}<>@~"),
	}.check(t)
	const hex = "0123456789abcdef"
	for b := 1; b < 256; b++ {
		want := oneByte(b)
		switch {
		case b < 16:
			want = `\` + hex[b:b+1] + " "
		case b <= 32 || b == 127:
			want = `\` + hex[b/16:b/16+1] + hex[b%16:b%16+1] + " "
		case strings.Contains(`"'()\`, want):
			want = `\` + want
		}
		ones{"url(" + want + "1)": url(oneByte(b) + "1")}.check(t)
	}
}

func TestTextsOfNumbers(t *testing.T) {
	ones{
		"0":             whole(0),
		"0.0":           broken(0),
		"0%":            percent(0),
		"1":             whole(1000),
		"-1":            whole(-1000),
		"1.0":           broken(1000),
		"2.0":           broken(2000),
		"-2.0":          broken(-2000),
		"0.5":           broken(500),
		"-0.5":          broken(-500),
		"0.05":          broken(50),
		"0.005":         broken(5),
		"-0.001":        broken(-1),
		"0.105":         broken(105),
		"0.15":          broken(150),
		"1.999":         broken(1999),
		"10.01":         broken(10010),
		"1000000000":    whole(most),
		"-1000000000":   whole(-most),
		"1000000000.0":  broken(most),
		"-1000000000.0": broken(-most),
		"999999999.999": broken(most - 1),
		"50%":           percent(50000),
		"-50%":          percent(-50000),
		"12.5%":         percent(12500),
		"-0.001%":       percent(-1),
		"1000000000%":   percent(most),
		"1000000000px":  wholeOf(most, "px"),
		"1px":           wholeOf(1000, "px"),
		"1.0px":         brokenOf(1000, "px"),
		"-1.5em":        brokenOf(-1500, "em"),
	}.check(t)
}

func TestTextsOfUnits(t *testing.T) {
	ones{
		"1e":             wholeOf(1000, "e"),
		"1E":             wholeOf(1000, "E"),
		"1.5em":          brokenOf(1500, "em"),
		`1.5\65 3`:       brokenOf(1500, "e3"),
		`1\65 3`:         wholeOf(1000, "e3"),
		`1\45 3`:         wholeOf(1000, "E3"),
		`1\65 0x`:        wholeOf(1000, "e0x"),
		`1\65 -3`:        wholeOf(1000, "e-3"),
		`1\45 -9e5`:      wholeOf(1000, "E-9e5"),
		"1e-":            wholeOf(1000, "e-"),
		"1e--1":          wholeOf(1000, "e--1"),
		"1e-a1":          wholeOf(1000, "e-a1"),
		"1ee1":           wholeOf(1000, "ee1"),
		"1f3":            wholeOf(1000, "f3"),
		"1d3":            wholeOf(1000, "d3"),
		`1e\+3`:          wholeOf(1000, "e+3"),
		`1e\.3`:          wholeOf(1000, "e.3"),
		`1-e3`:           wholeOf(1000, "-e3"),
		`1\-`:            wholeOf(1000, "-"),
		"1--":            wholeOf(1000, "--"),
		`1-\33 `:         wholeOf(1000, "-3"),
		`1\32 3`:         wholeOf(1000, "23"),
		`1\%`:            wholeOf(1000, "%"),
		`1\.5`:           wholeOf(1000, ".5"),
		"1\u00e93":       wholeOf(1000, "\u00e93"),
		`-0.25e\20 3\a `: brokenOf(-250, "e 3\n"),
	}.check(t)
}

func TestTextsOfMarks(t *testing.T) {
	ones{
		" ": space, "<!--": cdo, "-->": cdc,
		":": mark(api.TokColon), ";": mark(api.TokSemicolon), ",": mark(api.TokComma),
		"[": mark(api.TokOpenSquare), "]": mark(api.TokCloseSquare),
		"(": mark(api.TokOpenParen), ")": mark(api.TokCloseParen),
		"{": mark(api.TokOpenCurly), "}": mark(api.TokCloseCurly),
	}.check(t)
	for b := 1; b < 128; b++ {
		if glue.Check(list(delim(oneByte(b)))) == api.OK {
			ones{oneByte(b): delim(oneByte(b))}.check(t)
		}
	}
}

func TestOneHasNoLimit(t *testing.T) {
	const many = 10000
	for want, x := range map[string]api.Token{
		strings.Repeat("a", many):                     ident(strings.Repeat("a", many)),
		strings.Repeat(`\20 `, many):                  ident(strings.Repeat(" ", many)),
		`"` + strings.Repeat(`\"`, many) + `"`:        str(strings.Repeat(`"`, many)),
		"url(" + strings.Repeat(`\)`, many) + ")":     url(strings.Repeat(")", many)),
		"-0.5" + strings.Repeat("a", many):            brokenOf(-500, strings.Repeat("a", many)),
		"#1" + strings.Repeat(`\.`, many):             hash("1" + strings.Repeat(".", many)),
		`@\31 ` + strings.Repeat("1", many):           at("1" + strings.Repeat("1", many)),
		strings.Repeat("-", many) + "(":               function(strings.Repeat("-", many)),
		"#" + strings.Repeat("\xff", many) + `\7f -1`: idHash(strings.Repeat("\xff", many) + "\x7f-1"),
	} {
		if s, e := glue.One(x); e != api.OK || s != want {
			t.Errorf("One of %d bytes: %.20q, %v; want %.20q", len(x.Text), s, e, want)
		}
	}
}

// P3.2

// writes is a table of texts and the tokens that have them.
type writes map[string][]api.Token

func (l writes) check(t *testing.T) {
	t.Helper()
	for want, tokens := range l {
		if s, e := glue.Write(tokens); e != api.OK || s != want {
			t.Errorf("Write(%+v) = %q, %v; want %q", tokens, s, e, want)
		}
	}
}

func TestWriteWithoutComments(t *testing.T) {
	writes{
		"":               nil,
		"a:":             list(ident("a"), colon),
		"a b":            list(ident("a"), space, ident("b")),
		"a.b":            list(ident("a"), delim("."), ident("b")),
		"a>b":            list(ident("a"), delim(">"), ident("b")),
		"a,b":            list(ident("a"), mark(api.TokComma), ident("b")),
		"f(a)b":          list(function("f"), ident("a"), closing, ident("b")),
		"f()(":           list(function("f"), closing, openParen),
		"f((":            list(function("f"), openParen),
		`"a""b"c`:        list(str("a"), str("b"), ident("c")),
		"url(a)b":        list(url("a"), ident("b")),
		"url(a)(":        list(url("a"), openParen),
		"::":             list(colon, colon),
		"#a.b":           list(idHash("a"), delim("."), ident("b")),
		"#a#b":           list(idHash("a"), idHash("b")),
		"@a(":            list(at("a"), openParen),
		"#a(":            list(idHash("a"), openParen),
		"1px(":           list(wholeOf(1000, "px"), openParen),
		"1%a":            list(percent(1000), ident("a")),
		"1%%":            list(percent(1000), delim("%")),
		"1#a":            list(whole(1000), idHash("a")),
		"1.a":            list(whole(1000), delim("."), ident("a")),
		"1.5.":           list(broken(1500), delim(".")),
		"1+a":            list(whole(1000), delim("+"), ident("a")),
		"..":             list(delim("."), delim(".")),
		".-a":            list(delim("."), ident("-a")),
		"+-1":            list(delim("+"), whole(-1000)),
		"+-":             list(delim("+"), delim("-")),
		"a+b":            list(ident("a"), delim("+"), ident("b")),
		"-+":             list(delim("-"), delim("+")),
		"@@a":            list(delim("@"), at("a")),
		"##a":            list(delim("#"), idHash("a")),
		"-#a":            list(delim("-"), idHash("a")),
		"@-":             list(delim("@"), delim("-")),
		"*/":             list(delim("*"), delim("/")),
		"//":             list(delim("/"), delim("/")),
		"<!-":            list(delim("<"), delim("!"), delim("-")),
		"<!-->":          list(cdo, delim(">")),
		"-->":            list(cdc),
		"-->-->":         list(cdc, cdc),
		"<!---->":        list(cdo, cdc),
		"<<!--":          list(delim("<"), cdo),
		"->":             list(delim("-"), delim(">")),
		"-> ":            list(delim("-"), delim(">"), space),
		"a<!--":          list(ident("a"), cdo),
		"1e+":            list(wholeOf(1000, "e"), delim("+")),
		`\31  a`:         list(ident("1"), space, ident("a")),
		`\31 a`:          list(ident("1a")),
		`\-:`:            list(ident("-"), colon),
		"!important":     list(delim("!"), ident("important")),
		"a{color:#f00}":  list(ident("a"), mark(api.TokOpenCurly), ident("color"), colon, idHash("f00"), mark(api.TokCloseCurly)),
		"\x01\x7f?":      list(delim("\x01"), delim("\x7f"), delim("?")),
		"-0.5\\65 -3.b":  list(brokenOf(-500, "e-3"), delim("."), ident("b")),
		"url-(a)url2(a)": list(function("url-"), ident("a"), closing, function("url2"), ident("a"), closing),
	}.check(t)
}

func TestWriteWithComments(t *testing.T) {
	writes{
		"a/**/b":            list(ident("a"), ident("b")),
		"a/**/b/**/c":       list(ident("a"), ident("b"), ident("c")),
		"a/**/f(":           list(ident("a"), function("f")),
		"a/**/url(a)":       list(ident("a"), url("a")),
		"a/**/(":            list(ident("a"), openParen),
		"url/**/(":          list(ident("url"), openParen),
		"a/**/1":            list(ident("a"), whole(1000)),
		"a/**/-1":           list(ident("a"), whole(-1000)),
		"a/**/-":            list(ident("a"), delim("-")),
		"a/**/-->":          list(ident("a"), cdc),
		"a/**/1%":           list(ident("a"), percent(1000)),
		"a/**/1px":          list(ident("a"), wholeOf(1000, "px")),
		"@a/**/b":           list(at("a"), ident("b")),
		"@a/**/-":           list(at("a"), delim("-")),
		"#a/**/b":           list(idHash("a"), ident("b")),
		"#1/**/2":           list(hash("1"), whole(2000)),
		"#-/**/-":           list(hash("-"), delim("-")),
		"#/**/a":            list(delim("#"), ident("a")),
		"#/**/1":            list(delim("#"), whole(1000)),
		"#/**/-":            list(delim("#"), delim("-")),
		"#/**/-->":          list(delim("#"), cdc),
		`#/**/\-`:           list(delim("#"), ident("-")),
		"@/**/a":            list(delim("@"), ident("a")),
		"@/**/-->":          list(delim("@"), cdc),
		"@-/**/-":           list(delim("@"), delim("-"), delim("-")),
		"1/**/2":            list(whole(1000), whole(2000)),
		"1/**/a":            list(whole(1000), ident("a")),
		"1/**/%":            list(whole(1000), delim("%")),
		"1/**/e":            list(whole(1000), ident("e")),
		"1/**/-->":          list(whole(1000), cdc),
		"1/**/f(":           list(whole(1000), function("f")),
		`1/**/url("a"`:      list(whole(1000), function("url"), str("a")),
		"1-/**/-":           list(whole(1000), delim("-"), delim("-")),
		"1./**/5":           list(whole(1000), delim("."), whole(5000)),
		"1.0/**/5":          list(broken(1000), whole(5000)),
		"1px/**/2":          list(wholeOf(1000, "px"), whole(2000)),
		"1px/**/a":          list(wholeOf(1000, "px"), ident("a")),
		"1px/**/-":          list(wholeOf(1000, "px"), delim("-")),
		"1e/**/5":           list(wholeOf(1000, "e"), whole(5000)),
		"1e/**/-5":          list(wholeOf(1000, "e"), whole(-5000)),
		"1e-/**/5":          list(wholeOf(1000, "e-"), whole(5000)),
		"1e+/**/5":          list(wholeOf(1000, "e"), delim("+"), whole(5000)),
		"+/**/1":            list(delim("+"), whole(1000)),
		"+/**/1px":          list(delim("+"), wholeOf(1000, "px")),
		"+./**/5%":          list(delim("+"), delim("."), percent(5000)),
		"./**/5":            list(delim("."), whole(5000)),
		"-/**/1":            list(delim("-"), whole(1000)),
		"-/**/-1":           list(delim("-"), whole(-1000)),
		"-/**/a":            list(delim("-"), ident("a")),
		"-/**/-":            list(delim("-"), delim("-")),
		"-/**/->":           list(delim("-"), delim("-"), delim(">")),
		"-/**/-/**/-":       list(delim("-"), delim("-"), delim("-")),
		"-/**/\u00e9":       list(delim("-"), ident("\u00e9")),
		`-/**/\31 `:         list(delim("-"), ident("1")),
		"--/**/>":           list(ident("--"), delim(">")),
		"<!/**/--":          list(delim("<"), delim("!"), ident("--")),
		"<!/**/--a":         list(delim("<"), delim("!"), ident("--a")),
		"<!/**/-->":         list(delim("<"), delim("!"), cdc),
		"<!-/**/-":          list(delim("<"), delim("!"), delim("-"), delim("-")),
		"<!-a":              list(delim("<"), delim("!"), ident("-a")),
		" /**/ ":            list(space, space),
		" /**/ /**/ ":       list(space, space, space),
		"//**/*":            list(delim("/"), delim("*")),
		"//**/**":           list(delim("/"), delim("*"), delim("*")),
		"///**/*/":          list(delim("/"), delim("/"), delim("*"), delim("/")),
		"1/**/2/**/3.b.c-d": list(whole(1000), whole(2000), whole(3000), delim("."), ident("b"), delim("."), ident("c-d")),
	}.check(t)
}

func TestPieces(t *testing.T) {
	writes{
		"\\\n":               list(backslash, space),
		"\\\n/**/ ":          list(backslash, space, space),
		"\\\n/**/ /**/ ":     list(backslash, space, space, space),
		" \\\n":              list(space, backslash, space),
		"a\\\nb":             list(ident("a"), backslash, space, ident("b")),
		"-\\\n":              list(delim("-"), backslash, space),
		"--\\\n":             list(ident("--"), backslash, space),
		"#\\\n":              list(delim("#"), backslash, space),
		"@-\\\n":             list(delim("@"), delim("-"), backslash, space),
		"1-\\\n":             list(whole(1000), delim("-"), backslash, space),
		"1e\\\n":             list(wholeOf(1000, "e"), backslash, space),
		"/\\\n*":             list(delim("/"), backslash, space, delim("*")),
		"\\\n\\\n":           list(backslash, space, backslash, space),
		"\\\n6":              list(backslash, space, whole(6000)),
		`url("a"`:            list(function("url"), str("a")),
		`url("a")`:           list(function("url"), str("a"), closing),
		`uRL( "a"`:           list(function("uRL"), space, str("a")),
		`url("" /**/ `:       list(function("url"), str(""), space, space),
		` url( "" `:          list(space, function("url"), space, str(""), space),
		`a/**/url( "a"`:      list(ident("a"), function("url"), space, str("a")),
		`#a/**/url("a"`:      list(idHash("a"), function("url"), str("a")),
		`@/**/url("a"`:       list(delim("@"), function("url"), str("a")),
		`1.5/**/url( "\""`:   list(broken(1500), function("url"), space, str(`"`)),
		`url("a"url("b"`:     list(function("url"), str("a"), function("url"), str("b")),
		`url("a"url( "b"c`:   list(function("url"), str("a"), function("url"), space, str("b"), ident("c")),
		`url("a"\-`:          list(function("url"), str("a"), ident("-")),
		`--/**/URL( "a")url`: list(ident("--"), function("URL"), space, str("a"), closing, ident("url")),
	}.check(t)
}

func TestTextsThatAreTooLong(t *testing.T) {
	long := func(n int) string { return strings.Repeat("a", n) }
	for _, c := range []struct {
		tokens []api.Token
		length int
	}{
		{list(ident(long(4000))), 4000},
		{list(ident(long(4001))), 4001},
		{list(str(long(3998))), 4000},
		{list(str(long(3999))), 4001},
		{list(str(strings.Repeat(`"`, 1999))), 4000},
		{list(str(strings.Repeat(`"`, 2000))), 4002},
		{list(ident(strings.Repeat("\x01", 1333))), 3999},
		{list(ident(strings.Repeat("\x01", 1334))), 4002},
		{list(url(long(3995))), 4000},
		{list(url(long(3996))), 4001},
		{list(ident(long(3999)), colon), 4000},
		{list(ident(long(3999)), colon, colon), 4001},
		{list(ident(long(1998)), ident(long(1998))), 4000},
		{list(ident(long(1998)), ident(long(1999))), 4001},
		{list(ident(long(2000)), ident(long(2000))), 4004},
		{list(colon, ident(long(3994)), ident("a")), 4000},
		{list(colon, ident(long(3995)), ident("a")), 4001},
		{list(function("url"), str(long(3994))), 4000},
		{list(function("url"), space, str(long(3994))), 4001},
		{slices.Repeat(list(ident("a")), 800), 3996},
		{slices.Repeat(list(ident("a")), 801), 4001},
		{slices.Repeat(list(ident("a"), space), 750), 1500},
		{slices.Repeat(list(function("a"), str("")), 750), 3000},
		{slices.Repeat(list(function("ab"), str("")), 750), 3750},
		{slices.Repeat(list(function("abc"), str("")), 750), 4500},
		{list(ident(long(100000))), 100000},
		{list(colon, str(long(100000)), colon), 100004},
	} {
		s, e := glue.Write(c.tokens)
		if c.length > 4000 && (e != api.ErrLong || s != "") || c.length <= 4000 && (e != api.OK || len(s) != c.length) {
			t.Errorf("Write of %d tokens, the first %.20q: %d bytes, %v; it has %d", len(c.tokens), c.tokens[0].Text, len(s), e, c.length)
		}
		if e := glue.Check(c.tokens); e != api.OK {
			t.Errorf("Check of %d tokens, the first %.20q: %v", len(c.tokens), c.tokens[0].Text, e)
		}
	}
	bad := list(str(long(5000)), mark(0))
	if s, e := glue.Write(bad); e != api.ErrBad || s != "" {
		t.Error("what cannot be written comes before what is too long:", len(s), e)
	}
}

func TestNames(t *testing.T) {
	for text, want := range map[string]string{
		"a":                              "a",
		"1st place":                      `\31 st\20 place`,
		"-":                              `\-`,
		"--":                             "--",
		"-1":                             `-\31 `,
		"--1":                            "--1",
		"1":                              `\31 `,
		"a1":                             "a1",
		"\n":                             `\a `,
		"\r\f":                           `\d \c `,
		"a.b":                            `a\.b`,
		"\x7f\x80\xff":                   "\\7f \x80\xff",
		"url":                            "url",
		"e3":                             "e3",
		"f(":                             `f\(`,
		strings.Repeat("a", 4000):        strings.Repeat("a", 4000),
		strings.Repeat(".", 2000):        strings.Repeat(`\.`, 2000),
		strings.Repeat("\t", 1333):       strings.Repeat(`\9 `, 1333),
		"-0" + strings.Repeat("0", 3995): `-\30 ` + strings.Repeat("0", 3995),
	} {
		if s, e := glue.Name(text); e != api.OK || s != want {
			t.Errorf("Name(%.20q) = %.20q, %v; want %.20q", text, s, e, want)
		}
	}
}

func TestTextsThatAreNoNames(t *testing.T) {
	for text, want := range map[string]api.Errno{
		"":                                   api.ErrBad,
		"\x00":                               api.ErrBad,
		"a\x00":                              api.ErrBad,
		"\x00a":                              api.ErrBad,
		"a\x00b":                             api.ErrBad,
		strings.Repeat("a", 4001):            api.ErrLong,
		strings.Repeat(".", 2001):            api.ErrLong,
		strings.Repeat("\t", 1334):           api.ErrLong,
		strings.Repeat("a", 3998) + " ":      api.ErrLong,
		"0" + strings.Repeat("0", 3997):      api.ErrLong,
		strings.Repeat("a", 100000):          api.ErrLong,
		strings.Repeat("a", 4000) + "\x00":   api.ErrBad,
		strings.Repeat("\x00", 4001):         api.ErrBad,
		strings.Repeat(" ", 3000) + "\x00":   api.ErrBad,
		"\x00" + strings.Repeat("a", 100000): api.ErrBad,
	} {
		if s, e := glue.Name(text); e != want || s != "" {
			t.Errorf("Name(%.20q) = %.20q, %v; want %v", text, s, e, want)
		}
	}
}

// The chapter's examples.

func TestExamples(t *testing.T) {
	ones{
		`\31 \20 a`: ident("1 a"),
		`"a\"\a "`:  str("a\"\n"),
		`1.5\65 3`:  brokenOf(1500, "e3"),
		"2.0":       broken(2000),
	}.check(t)
	writes{
		"a/**/b": list(ident("a"), ident("b")),
		"a:":     list(ident("a"), colon),
	}.check(t)
}

// P1: arguments are only read, and nothing is kept.

func TestArgumentsAreOnlyRead(t *testing.T) {
	for _, l := range [][]api.Token{
		list(ident("a"), ident("b"), function("url"), space, str("c"), backslash, space),
		list(ident("a"), mark(0)),
		list(backslash),
		list(str(strings.Repeat("a", 5000))),
	} {
		behind := list(ident("x"), backslash, function("url"))
		whole := append(slices.Clone(l), behind...)
		first, e := glue.Write(whole[:len(l)])
		glue.Check(whole[:len(l)])
		if !slices.Equal(whole, append(slices.Clone(l), behind...)) {
			t.Errorf("Write changed %+v to %+v", l, whole)
		}
		glue.Write(list(colon, ident("a"), ident("b")))
		if again, f := glue.Write(l); again != first || f != e {
			t.Errorf("Write(%+v) = %q, %v, and again %q, %v", l, first, e, again, f)
		}
	}
}

// What stands between a slice's length and its capacity is not behind its last token.
func TestWhatIsBehindTheLengthIsNotRead(t *testing.T) {
	for _, l := range [][]api.Token{
		list(backslash, space),
		list(function("url"), str("a")),
		list(function("url"), space, str("a")),
	} {
		for n := 1; n < len(l); n++ {
			if e := glue.Check(l[:n]); e != api.ErrBad {
				t.Errorf("Check of the first %d of %+v: %v", n, l, e)
			}
			if s, e := glue.Write(l[:n]); e != api.ErrBad || s != "" {
				t.Errorf("Write of the first %d of %+v: %q, %v", n, l, s, e)
			}
		}
	}
}

func TestTokensOfTheTextOfOne(t *testing.T) {
	for _, x := range samples() {
		s, _ := glue.One(x)
		if got, e := token.Tokens(s); e != api.OK || !slices.Equal(got, list(x)) {
			t.Errorf("%+v is written %q, and read %+v, %v", x, s, got, e)
		}
	}
}
