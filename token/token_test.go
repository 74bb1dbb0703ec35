package token

import (
	"slices"
	"strings"
	"testing"

	"vitrine/api"
)

const replaced = "\xef\xbf\xbd"

func ident(s string) api.Token    { return api.Token{Kind: api.TokIdent, Text: s} }
func function(s string) api.Token { return api.Token{Kind: api.TokFunction, Text: s} }
func at(s string) api.Token       { return api.Token{Kind: api.TokAt, Text: s} }
func idHash(s string) api.Token   { return api.Token{Kind: api.TokHash, Text: s, Flag: true} }
func hash(s string) api.Token     { return api.Token{Kind: api.TokHash, Text: s} }
func str(s string) api.Token      { return api.Token{Kind: api.TokString, Text: s} }
func url(s string) api.Token      { return api.Token{Kind: api.TokURL, Text: s} }
func delim(s string) api.Token    { return api.Token{Kind: api.TokDelim, Text: s} }
func whole(n int64) api.Token     { return api.Token{Kind: api.TokNumber, Num: n, Flag: true} }
func broken(n int64) api.Token    { return api.Token{Kind: api.TokNumber, Num: n} }
func percent(n int64) api.Token   { return api.Token{Kind: api.TokPercent, Num: n} }

func wholeOf(n int64, unit string) api.Token {
	return api.Token{Kind: api.TokDimension, Num: n, Unit: unit, Flag: true}
}

func brokenOf(n int64, unit string) api.Token {
	return api.Token{Kind: api.TokDimension, Num: n, Unit: unit}
}

var (
	space     = api.Token{Kind: api.TokSpace}
	badString = api.Token{Kind: api.TokBadString}
	badURL    = api.Token{Kind: api.TokBadURL}
	cdo       = api.Token{Kind: api.TokCDO}
	cdc       = api.Token{Kind: api.TokCDC}
	colon     = api.Token{Kind: api.TokColon}
	openParen = api.Token{Kind: api.TokOpenParen}
	closing   = api.Token{Kind: api.TokCloseParen}
)

// texts is a table of texts and their tokens.
type texts []struct {
	text string
	want []api.Token
}

func (l texts) check(t *testing.T) {
	t.Helper()
	for _, c := range l {
		got, e := Tokens(c.text)
		if e != api.OK || !slices.Equal(got, c.want) {
			t.Errorf("Tokens(%q) = %+v, %v; want %+v", c.text, got, e, c.want)
		}
	}
}

func list(l ...api.Token) []api.Token { return l }

// P2.1: rule by rule.

func TestSpaces(t *testing.T) {
	texts{
		{"", nil},
		{" ", list(space)},
		{" \t\n \r\n\f\r", list(space)},
		{"a b", list(ident("a"), space, ident("b"))},
		{"\v", list(delim("\v"))},
		{"\u00a0", list(ident("\u00a0"))},
	}.check(t)
}

func TestComments(t *testing.T) {
	texts{
		{"/**/", nil},
		{"/* a", nil},
		{"/*", nil},
		{"/*/", nil},
		{"/*/a*/b", list(ident("b"))},
		{"/***/b", list(ident("b"))},
		{"/* /* */b*/", list(ident("b"), delim("*"), delim("/"))},
		{"/*a*//*b*/c/*d*/", list(ident("c"))},
		{" /**/ ", list(space, space)},
		{"a/**/b", list(ident("a"), ident("b"))},
		{"a/**/(", list(ident("a"), openParen)},
		{"1/**/px", list(whole(1000), ident("px"))},
		{"/*\\*/a", list(ident("a"))},
		{"/*\"*/a", list(ident("a"))},
		{"/ *", list(delim("/"), space, delim("*"))},
		{"/", list(delim("/"))},
		{"'/*'*/", list(str("/*"), delim("*"), delim("/"))},
		{"url(/*)a", list(url("/*"), ident("a"))},
		{"\\/*a*/", list(ident("/"), delim("*"), ident("a"), delim("*"), delim("/"))},
		{"<!/**/--", list(delim("<"), delim("!"), ident("--"))},
	}.check(t)
}

func TestStrings(t *testing.T) {
	texts{
		{`"a"`, list(str("a"))},
		{`'a'`, list(str("a"))},
		{`""''`, list(str(""), str(""))},
		{`"a'b"`, list(str("a'b"))},
		{`'a"b'`, list(str(`a"b`))},
		{`"a`, list(str("a"))},
		{`"`, list(str(""))},
		{`"\"`, list(str(`"`))},
		{`"a\"b"c`, list(str(`a"b`), ident("c"))},
		{`"a\`, list(str("a"))},
		{`"\`, list(str(""))},
		{"\"a\\\nb\"", list(str("ab"))},
		{"\"a\\\r\nb\"", list(str("ab"))},
		{"\"a\\\n", list(str("a"))},
		{`"\41 b"`, list(str("Ab"))},
		{`"\41  b"`, list(str("A b"))},
		{"\"\\41\nb\"", list(str("Ab"))},
		{"\"\\41\n\nb", list(badString, space, ident("b"))},
		{`"\z\\"`, list(str(`z\`))},
		{"\"a\nb\"", list(badString, space, ident("b"), str(""))},
		{"\"\n", list(badString, space)},
		{"'a\r'", list(badString, space, str(""))},
		{"'a\f", list(badString, space)},
		{"\"\x00\"", list(str(replaced))},
		{"\"\\\x00\"", list(str(replaced))},
		{"'\x01\x7f\t\xff'", list(str("\x01\x7f\t\xff"))},
	}.check(t)
}

func TestHashes(t *testing.T) {
	texts{
		{"#a", list(idHash("a"))},
		{"#f00", list(idHash("f00"))},
		{"#0f0", list(hash("0f0"))},
		{"#-", list(hash("-"))},
		{"#-1", list(hash("-1"))},
		{"#-a", list(idHash("-a"))},
		{"#--", list(idHash("--"))},
		{"#_", list(idHash("_"))},
		{"#\xe9", list(idHash("\xe9"))},
		{`#\31 `, list(idHash("1"))},
		{`#-\31 `, list(idHash("-1"))},
		{`#\`, list(idHash(replaced))},
		{"#\\\n", list(delim("#"), delim("\\"), space)},
		{"#", list(delim("#"))},
		{"##a", list(delim("#"), idHash("a"))},
		{"# a", list(delim("#"), space, ident("a"))},
		{"#.5", list(delim("#"), broken(500))},
		{"#+", list(delim("#"), delim("+"))},
		{"#a(", list(idHash("a"), openParen)},
		{"#url(", list(idHash("url"), openParen)},
		{"#1%", list(hash("1"), delim("%"))},
	}.check(t)
}

func TestNumbers(t *testing.T) {
	texts{
		{"0", list(whole(0))},
		{"12", list(whole(12000))},
		{"+12", list(whole(12000))},
		{"-12", list(whole(-12000))},
		{"007", list(whole(7000))},
		{"1.5", list(broken(1500))},
		{".5", list(broken(500))},
		{"-.5", list(broken(-500))},
		{"+.5", list(broken(500))},
		{"1.0", list(broken(1000))},
		{"1e3", list(broken(1000000))},
		{"1E3", list(broken(1000000))},
		{"1e+3", list(broken(1000000))},
		{"1e-3", list(broken(1))},
		{"1.5e1", list(broken(15000))},
		{"1.", list(whole(1000), delim("."))},
		{"1.e3", list(whole(1000), delim("."), ident("e3"))},
		{"1..5", list(whole(1000), delim("."), broken(500))},
		{"1.2.3", list(broken(1200), broken(300))},
		{".", list(delim("."))},
		{"..1", list(delim("."), broken(100))},
		{"+", list(delim("+"))},
		{"-", list(delim("-"))},
		{"+-1", list(delim("+"), whole(-1000))},
		{"-+1", list(delim("-"), whole(1000))},
		{"--1", list(ident("--1"))},
		{"+a", list(delim("+"), ident("a"))},
		{"+.a", list(delim("+"), delim("."), ident("a"))},
		{"1+2", list(whole(1000), whole(2000))},
		{"1-2", list(whole(1000), whole(-2000))},
		{"1 -2", list(whole(1000), space, whole(-2000))},
		{"1e3.5", list(broken(1000000), broken(500))},
	}.check(t)
}

func TestPercentagesAndDimensions(t *testing.T) {
	texts{
		{"50%", list(percent(50000))},
		{"-1.5%", list(percent(-1500))},
		{"1e1%", list(percent(10000))},
		{"1%%", list(percent(1000), delim("%"))},
		{"1 %", list(whole(1000), space, delim("%"))},
		{"%", list(delim("%"))},
		{"1px", list(wholeOf(1000, "px"))},
		{"-1.5em", list(brokenOf(-1500, "em"))},
		{"1PX", list(wholeOf(1000, "PX"))},
		{"1e", list(wholeOf(1000, "e"))},
		{"1e-", list(wholeOf(1000, "e-"))},
		{"1e+", list(wholeOf(1000, "e"), delim("+"))},
		{"1e-x", list(wholeOf(1000, "e-x"))},
		{"1e3e4", list(brokenOf(1000000, "e4"))},
		{"1e3px", list(brokenOf(1000000, "px"))},
		{"2n+1", list(wholeOf(2000, "n"), whole(1000))},
		{"2n-1", list(wholeOf(2000, "n-1"))},
		{"1-a", list(wholeOf(1000, "-a"))},
		{"1--", list(wholeOf(1000, "--"))},
		{"1-->", list(wholeOf(1000, "--"), delim(">"))},
		{"1-", list(whole(1000), delim("-"))},
		{`1\65 3`, list(wholeOf(1000, "e3"))},
		{`1\`, list(wholeOf(1000, replaced))},
		{`1-\`, list(wholeOf(1000, "-"+replaced))},
		{"1\\\n", list(whole(1000), delim("\\"), space)},
		{"1\xff", list(wholeOf(1000, "\xff"))},
		{"1_", list(wholeOf(1000, "_"))},
		{"1px(", list(wholeOf(1000, "px"), openParen)},
		{"1url(a", list(wholeOf(1000, "url"), openParen, ident("a"))},
		{"1a%", list(wholeOf(1000, "a"), delim("%"))},
	}.check(t)
}

func TestCommentMarksOfPages(t *testing.T) {
	texts{
		{"-->", list(cdc)},
		{"<!--", list(cdo)},
		{"<!---->", list(cdo, cdc)},
		{"<!--->", list(cdo, delim("-"), delim(">"))},
		{"--->", list(ident("---"), delim(">"))},
		{"-- >", list(ident("--"), space, delim(">"))},
		{"->", list(delim("-"), delim(">"))},
		{"<!-", list(delim("<"), delim("!"), delim("-"))},
		{"<!", list(delim("<"), delim("!"))},
		{"a-->", list(ident("a--"), delim(">"))},
		{"-->a", list(cdc, ident("a"))},
	}.check(t)
}

func TestAt(t *testing.T) {
	texts{
		{"@media", list(at("media"))},
		{"@-a", list(at("-a"))},
		{"@--", list(at("--"))},
		{`@\41`, list(at("A"))},
		{`@\`, list(at(replaced))},
		{"@", list(delim("@"))},
		{"@ a", list(delim("@"), space, ident("a"))},
		{"@1", list(delim("@"), whole(1000))},
		{"@-1", list(delim("@"), whole(-1000))},
		{"@-", list(delim("@"), delim("-"))},
		{"@\\\na", list(delim("@"), delim("\\"), space, ident("a"))},
		{"@-\\\n", list(delim("@"), delim("-"), delim("\\"), space)},
		{"@@a", list(delim("@"), at("a"))},
		{"@-->", list(at("--"), delim(">"))},
		{"@url(a", list(at("url"), openParen, ident("a"))},
	}.check(t)
}

func TestNames(t *testing.T) {
	texts{
		{"a", list(ident("a"))},
		{"Ab_9-", list(ident("Ab_9-"))},
		{"-a", list(ident("-a"))},
		{"-_", list(ident("-_"))},
		{"--", list(ident("--"))},
		{"--a", list(ident("--a"))},
		{"---", list(ident("---"))},
		{"-\xe9", list(ident("-\xe9"))},
		{"\x80", list(ident("\x80"))},
		{"\xff", list(ident("\xff"))},
		{"a\x7f", list(ident("a"), delim("\x7f"))},
		{"a\x00b", list(ident("a" + replaced + "b"))},
		{"-1a", list(wholeOf(-1000, "a"))},
		{"a(", list(function("a"))},
		{"a()", list(function("a"), closing)},
		{"a (", list(ident("a"), space, openParen)},
		{"-a(", list(function("-a"))},
		{"--(", list(function("--"))},
		{`\61(`, list(function("a"))},
		{"URL", list(ident("URL"))},
		{"a.b", list(ident("a"), delim("."), ident("b"))},
	}.check(t)
}

func TestEscapes(t *testing.T) {
	texts{
		{`\61`, list(ident("a"))},
		{`\61 b`, list(ident("ab"))},
		{`\61  b`, list(ident("a"), space, ident("b"))},
		{"\\61\tb", list(ident("ab"))},
		{"\\61\nb", list(ident("ab"))},
		{"\\61\r\nb", list(ident("ab"))},
		{`\61g`, list(ident("ag"))},
		{`\000061b`, list(ident("ab"))},
		{`\000061 b`, list(ident("ab"))},
		{`\0000611`, list(ident("a1"))},
		{`\61b`, list(ident("\u061b"))},
		{`\4A\4a`, list(ident("JJ"))},
		{`\aB `, list(ident("\u00ab"))},
		{`\Ff`, list(ident("\u00ff"))},
		{`\e9`, list(ident("\u00e9"))},
		{`\20AC`, list(ident("\u20ac"))},
		{`\1F600`, list(ident("\U0001f600"))},
		{`\10FFFF`, list(ident("\U0010ffff"))},
		{`\110000`, list(ident(replaced))},
		{`\FFFFFF`, list(ident(replaced))},
		{`\0`, list(ident(replaced))},
		{`\000000`, list(ident(replaced))},
		{`\0000001`, list(ident(replaced + "1"))},
		{`\D7FF`, list(ident("\ud7ff"))},
		{`\D800`, list(ident(replaced))},
		{`\DFFF`, list(ident(replaced))},
		{`\E000`, list(ident("\ue000"))},
		{`\FFFD`, list(ident(replaced))},
		{`\g\.\ \"`, list(ident(`g. "`))},
		{"\\\t", list(ident("\t"))},
		{"\\\xff", list(ident("\xff"))},
		{"\\\u00e9", list(ident("\u00e9"))},
		{"\\\x00", list(ident(replaced))},
		{`\`, list(ident(replaced))},
		{`a\`, list(ident("a" + replaced))},
		{`-\`, list(ident("-" + replaced))},
		{`--\`, list(ident("--" + replaced))},
		{`\\`, list(ident(`\`))},
		{`\\\`, list(ident(`\` + replaced))},
		{"\\\n", list(delim("\\"), space)},
		{"\\\r", list(delim("\\"), space)},
		{"\\\f", list(delim("\\"), space)},
		{"a\\\nb", list(ident("a"), delim("\\"), space, ident("b"))},
		{"-\\\n", list(delim("-"), delim("\\"), space)},
		{`\2d`, list(ident("-"))},
		{`\31`, list(ident("1"))},
		{`a\28 b`, list(ident("a(b"))},
		{`\(`, list(ident("("))},
	}.check(t)
}

func TestURLs(t *testing.T) {
	texts{
		{"url()", list(url(""))},
		{"url(", list(url(""))},
		{"url( ", list(url(""))},
		{"url( )", list(url(""))},
		{"url( x )", list(url("x"))},
		{"url(\t\nx \t\r\n)", list(url("x"))},
		{"url(x", list(url("x"))},
		{"url(x ", list(url("x"))},
		{"url(a.b/c?d=e#f)g", list(url("a.b/c?d=e#f"), ident("g"))},
		{"URL(x)", list(url("x"))},
		{"uRl(x)", list(url("x"))},
		{`\75rl(x)`, list(url("x"))},
		{`u\52 l(x)`, list(url("x"))},
		{`url(\)`, list(url(")"))},
		{`url(\`, list(url(replaced))},
		{`url(a\61 b)`, list(url("aab"))},
		{`url(a\61 )`, list(url("aa"))},
		{`url(\ )`, list(url(" "))},
		{`url( \ a)`, list(url(" a"))},
		{`url(\"\'\()`, list(url(`"'(`))},
		{"url(\\\x01)", list(url("\x01"))},
		{"url(\xff\x80)", list(url("\xff\x80"))},
		{"url(\x00)", list(url(replaced))},
		{"url(@,;{}[]:!)", list(url("@,;{}[]:!"))},
		{"url(/**/)", list(url("/**/"))},
		{"url(url)", list(url("url"))},
		{`url("a")`, list(function("url"), str("a"), closing)},
		{`url('a')`, list(function("url"), str("a"), closing)},
		{`URL( "a" )`, list(function("URL"), space, str("a"), space, closing)},
		{"url(\n\t'", list(function("url"), space, str(""))},
		{`url("a`, list(function("url"), str("a"))},
		{"url", list(ident("url"))},
		{"url (a)", list(ident("url"), space, openParen, ident("a"), closing)},
		{"-url(a)", list(function("-url"), ident("a"), closing)},
		{"url-(a)", list(function("url-"), ident("a"), closing)},
		{"urls(a)", list(function("urls"), ident("a"), closing)},
		{"src(a)", list(function("src"), ident("a"), closing)},
	}.check(t)
}

func TestBadURLs(t *testing.T) {
	texts{
		{"url(a b)c", list(badURL, ident("c"))},
		{"url(a b", list(badURL)},
		{"url( a\nb )c", list(badURL, ident("c"))},
		{`url(a")c`, list(badURL, ident("c"))},
		{`url(a'b)c`, list(badURL, ident("c"))},
		{`url(a "b")c`, list(badURL, ident("c"))},
		{"url(()c", list(badURL, ident("c"))},
		{"url(a(b)c)", list(badURL, ident("c"), closing)},
		{"url(a\\\nb)c", list(badURL, ident("c"))},
		{"url(\\\n", list(badURL)},
		{"url(\\\r)", list(badURL)},
		{`url(a b\)c)d`, list(badURL, ident("d"))},
		{`url(a \)c)d`, list(badURL, ident("d"))},
		{`url(a b\29 )c`, list(badURL, ident("c"))},
		{`url(a b\`, list(badURL)},
		{`url(a b\\)c`, list(badURL, ident("c"))},
		{"url(a b\\\n)c", list(badURL, ident("c"))},
		{"url((\n\"){", list(badURL, api.Token{Kind: api.TokOpenCurly})},
	}.check(t)
	for b := range 128 {
		s := "url(a" + string([]byte{byte(b)}) + ")"
		want := url("a" + string([]byte{byte(b)}))
		switch {
		case b == 0:
			want = url("a" + replaced)
		case strings.ContainsRune("\"'(", rune(b)), b <= 8, b == 11, b >= 14 && b <= 31, b == 127:
			want = badURL
		case strings.ContainsRune(" \t\n\f\r", rune(b)):
			want = url("a")
		case b == '\\':
			want = url("a)")
		case b == ')':
			continue
		}
		texts{{s, list(want)}}.check(t)
	}
}

func TestMarksAndDelims(t *testing.T) {
	kinds := map[byte]uint8{
		':': api.TokColon, ';': api.TokSemicolon, ',': api.TokComma,
		'[': api.TokOpenSquare, ']': api.TokCloseSquare,
		'(': api.TokOpenParen, ')': api.TokCloseParen,
		'{': api.TokOpenCurly, '}': api.TokCloseCurly,
	}
	for b := range 256 {
		s := string([]byte{byte(b)})
		var want api.Token
		switch kind, mark := kinds[byte(b)]; {
		case mark:
			want = api.Token{Kind: kind}
		case b == 0:
			want = ident(replaced)
		case b == '\\':
			want = ident(replaced)
		case strings.Contains(" \t\n\f\r", s):
			want = space
		case s == `"` || s == `'`:
			want = str("")
		case s >= "0" && s <= "9":
			want = whole(int64(b-'0') * 1000)
		case b >= 128, b == '_', s >= "a" && s <= "z", s >= "A" && s <= "Z":
			want = ident(s)
		default:
			want = delim(s)
		}
		texts{{s, list(want)}}.check(t)
	}
	texts{
		{"::", list(colon, colon)},
		{"!important", list(delim("!"), ident("important"))},
		{"a>b", list(ident("a"), delim(">"), ident("b"))},
		{"|=", list(delim("|"), delim("="))},
		{"\x01", list(delim("\x01"))},
	}.check(t)
}

func TestSpansOfTexts(t *testing.T) {
	for _, c := range []struct {
		text string
		want [][2]int
	}{
		{"", nil},
		{"/**/", nil},
		{"a/* b */c", [][2]int{{0, 1}, {8, 9}}},
		{"/**/a/*", [][2]int{{4, 5}}},
		{" \t\n ", [][2]int{{0, 4}}},
		{"\r\na", [][2]int{{0, 1}, {1, 2}}},
		{"\x00 a", [][2]int{{0, 3}, {3, 4}, {4, 5}}},
		{`"a"'b`, [][2]int{{0, 3}, {3, 5}}},
		{"\"a\nb", [][2]int{{0, 2}, {2, 3}, {3, 4}}},
		{"\"a\\\n\"b", [][2]int{{0, 5}, {5, 6}}},
		{`"a\`, [][2]int{{0, 3}}},
		{"-1.5em10%7", [][2]int{{0, 8}, {8, 9}, {9, 10}}},
		{"-1.5e10%7", [][2]int{{0, 8}, {8, 9}}},
		{"f(x)", [][2]int{{0, 2}, {2, 3}, {3, 4}}},
		{"url( x )y", [][2]int{{0, 8}, {8, 9}}},
		{"url( x ", [][2]int{{0, 7}}},
		{"url( 'x')", [][2]int{{0, 4}, {4, 5}, {5, 8}, {8, 9}}},
		{"url(a b)c", [][2]int{{0, 8}, {8, 9}}},
		{`\61 b c`, [][2]int{{0, 5}, {5, 6}, {6, 7}}},
		{"#\\61  @a", [][2]int{{0, 5}, {5, 6}, {6, 8}}},
		{"<!---->!", [][2]int{{0, 4}, {4, 7}, {7, 8}}},
		{`\`, [][2]int{{0, 1}}},
	} {
		if got, e := Spans(c.text); e != api.OK || !slices.Equal(got, c.want) {
			t.Errorf("Spans(%q) = %v, %v; want %v", c.text, got, e, c.want)
		}
	}
}

func TestTooLongOrTooMany(t *testing.T) {
	for _, c := range []struct {
		text  string
		count int
		want  api.Errno
	}{
		{strings.Repeat("a", 4000), 1, api.OK},
		{strings.Repeat("\x00", 4000), 1, api.OK},
		{strings.Repeat("a", 4001), 0, api.ErrLong},
		{strings.Repeat(" ", 4001), 0, api.ErrLong},
		{strings.Repeat(":", 4001), 0, api.ErrLong},
		{strings.Repeat("/", 4001), 0, api.ErrLong},
		{strings.Repeat(":", 1500), 1500, api.OK},
		{strings.Repeat(":", 1501), 0, api.ErrMany},
		{strings.Repeat(":", 4000), 0, api.ErrMany},
		{strings.Repeat("a ", 750), 1500, api.OK},
		{strings.Repeat("a ", 750) + "a", 0, api.ErrMany},
		{strings.Repeat(":", 1500) + "/**/", 1500, api.OK},
		{strings.Repeat(":", 1500) + "/**/:", 0, api.ErrMany},
		{"/*" + strings.Repeat(":", 3998), 0, api.OK},
		{strings.Repeat("(", 1501), 0, api.ErrMany},
		{strings.Repeat("\"\n", 750), 1500, api.OK},
	} {
		got, e := Tokens(c.text)
		if e != c.want || len(got) != c.count {
			t.Errorf("Tokens of %d bytes, %.8q: %d, %v; want %d, %v", len(c.text), c.text, len(got), e, c.count, c.want)
		}
		at, e := Spans(c.text)
		if e != c.want || len(at) != c.count {
			t.Errorf("Spans of %d bytes, %.8q: %d, %v; want %d, %v", len(c.text), c.text, len(at), e, c.count, c.want)
		}
	}
}

// P2.2

func TestValues(t *testing.T) {
	const most = 1000000000000
	zeros := func(n int) string { return strings.Repeat("0", n) }
	for _, c := range []struct {
		text    string
		n       int64
		integer bool
	}{
		{"0", 0, true},
		{"-0", 0, true},
		{"+0.0", 0, false},
		{"1", 1000, true},
		{"-2.75", -2750, false},
		{"+2.75", 2750, false},
		{"0.001", 1, false},
		{"0.0009", 0, false},
		{"-0.0009", 0, false},
		{"1.9999", 1999, false},
		{"-1.9999", -1999, false},
		{"1e0", 1000, false},
		{"1E-3", 1, false},
		{"1e-4", 0, false},
		{"1234567e-6", 1234, false},
		{"0.0012345e3", 1234, false},
		{"12.5e+2", 1250000, false},
		{"999999999", most - 1000, true},
		{"1000000000", most, true},
		{"-1000000000", -most, true},
		{"1000000001", most, true},
		{"-1000000001", -most, true},
		{"999999999.999", most - 1, false},
		{"999999999.9999", most - 1, false},
		{"-999999999.9999", 1 - most, false},
		{"1000000000.001", most, false},
		{"9999999999.999", most, false},
		{"9999999999999", most, true},
		{"1e9", most, false},
		{"1e10", most, false},
		{"-1e9", -most, false},
		{"18446744073709551616", most, true},
		{"1e18446744073709551616", most, false},
		{"-1e18446744073709551616", -most, false},
		{"1e-18446744073709551616", 0, false},
		{"0e18446744073709551616", 0, false},
		{"0.1e000000000000000000001", 1000, false},
		{zeros(3999) + "7", 7000, true},
		{"." + zeros(3989) + "7e3987", 7, false},
		{"." + zeros(3989) + "7e3986", 0, false},
		{"." + zeros(3987) + "7e999999", most, false},
		{"1" + zeros(3900) + "e-3900", 1000, false},
		{"1" + zeros(3900) + "e-3903", 1, false},
		{"1" + zeros(3900) + "e-3904", 0, false},
		{"1" + zeros(3900) + "e-99999", 0, false},
		{"." + zeros(3999), 0, false},
		{"1e" + zeros(3990) + "2", 100000, false},
	} {
		n, integer, e := Value(c.text)
		if e != api.OK || n != c.n || integer != c.integer {
			t.Errorf("Value(%.20q) = %d, %v, %v; want %d, %v", c.text, n, integer, e, c.n, c.integer)
		}
	}
}

func TestNoValues(t *testing.T) {
	for text, want := range map[string]api.Errno{
		"":                         api.ErrForm,
		"a":                        api.ErrForm,
		"1 ":                       api.ErrForm,
		" 1":                       api.ErrForm,
		"1\n":                      api.ErrForm,
		"1\r":                      api.ErrForm,
		"1\x00":                    api.ErrForm,
		"\x001":                    api.ErrForm,
		"1.":                       api.ErrForm,
		".":                        api.ErrForm,
		"+":                        api.ErrForm,
		"-":                        api.ErrForm,
		"+.":                       api.ErrForm,
		"--1":                      api.ErrForm,
		"+-1":                      api.ErrForm,
		"1e":                       api.ErrForm,
		"1e+":                      api.ErrForm,
		"1e1.5":                    api.ErrForm,
		"1e1e1":                    api.ErrForm,
		"e1":                       api.ErrForm,
		"1.2.3":                    api.ErrForm,
		"1px":                      api.ErrForm,
		"1%":                       api.ErrForm,
		"1/**/":                    api.ErrForm,
		"/**/1":                    api.ErrForm,
		"1_000":                    api.ErrForm,
		"0x1":                      api.ErrForm,
		"\\31":                     api.ErrForm,
		"1\\":                      api.ErrForm,
		"\xff":                     api.ErrForm,
		strings.Repeat("1", 4001):  api.ErrLong,
		strings.Repeat("a", 4001):  api.ErrLong,
		strings.Repeat("\r", 4001): api.ErrLong,
	} {
		if n, integer, e := Value(text); n != 0 || integer || e != want {
			t.Errorf("Value(%.20q) = %d, %v, %v; want %v", text, n, integer, e, want)
		}
	}
	if _, _, e := Value(strings.Repeat("1", 4000)); e != api.OK {
		t.Error("a number may have 4000 bytes:", e)
	}
}

func TestNamesAlone(t *testing.T) {
	for text, want := range map[string]string{
		"a":                       "a",
		"Ab-_9":                   "Ab-_9",
		"-a":                      "-a",
		"--":                      "--",
		"--1":                     "--1",
		"\xff\x80":                "\xff\x80",
		`a\20 b`:                  "a b",
		`\31 a`:                   "1a",
		`-\31`:                    "-1",
		"\\61\n":                  "a",
		`\`:                       replaced,
		`a\`:                      "a" + replaced,
		`\0`:                      replaced,
		"\\\x00":                  "\x00",
		"\\\r":                    "\r",
		"\\\f":                    "\f",
		"url":                     "url",
		strings.Repeat("a", 4000): strings.Repeat("a", 4000),
	} {
		if got, e := Name(text); e != api.OK || got != want {
			t.Errorf("Name(%.20q) = %.20q, %v; want %.20q", text, got, e, want)
		}
	}
}

func TestNoNames(t *testing.T) {
	for text, want := range map[string]api.Errno{
		"":                         api.ErrForm,
		"-":                        api.ErrForm,
		"1":                        api.ErrForm,
		"1a":                       api.ErrForm,
		"-1":                       api.ErrForm,
		" a":                       api.ErrForm,
		"a ":                       api.ErrForm,
		"a b":                      api.ErrForm,
		"a(":                       api.ErrForm,
		"a/**/":                    api.ErrForm,
		"#a":                       api.ErrForm,
		"@a":                       api.ErrForm,
		"a.b":                      api.ErrForm,
		"\x00":                     api.ErrForm,
		"a\x00":                    api.ErrForm,
		"a\r":                      api.ErrForm,
		"\\61\r":                   api.ErrForm,
		"\\61\f":                   api.ErrForm,
		"\\\n":                     api.ErrForm,
		"a\\\n":                    api.ErrForm,
		"-\\\n":                    api.ErrForm,
		`\61  `:                    api.ErrForm,
		strings.Repeat("a", 4001):  api.ErrLong,
		strings.Repeat(" ", 4001):  api.ErrLong,
		strings.Repeat("\\", 4001): api.ErrLong,
	} {
		if got, e := Name(text); got != "" || e != want {
			t.Errorf("Name(%.20q) = %.20q, %v; want %v", text, got, e, want)
		}
	}
}

// The chapter's examples.

func TestExamples(t *testing.T) {
	const rule = "a.b{color:#f00}"
	texts{
		{rule, list(ident("a"), delim("."), ident("b"), api.Token{Kind: api.TokOpenCurly}, ident("color"), colon, idHash("f00"), api.Token{Kind: api.TokCloseCurly})},
		{"-1.5em", list(brokenOf(-1500, "em"))},
		{"url( x )", list(url("x"))},
		{`\61 b`, list(ident("ab"))},
	}.check(t)
	want := [][2]int{{0, 1}, {1, 2}, {2, 3}, {3, 4}, {4, 9}, {9, 10}, {10, 14}, {14, 15}}
	if got, e := Spans(rule); e != api.OK || !slices.Equal(got, want) {
		t.Errorf("Spans(%q) = %v, %v", rule, got, e)
	}
}

// P1: nothing is kept, and results share no memory.

func TestResultsAreOwn(t *testing.T) {
	const s = "a 1px 'x' url(y)"
	first, _ := Tokens(s)
	at, _ := Spans(s)
	copied, spans := slices.Clone(first), slices.Clone(at)
	again, _ := Tokens(s)
	there, _ := Spans(s)
	clear(again[:cap(again)])
	clear(there[:cap(there)])
	if !slices.Equal(first, copied) || !slices.Equal(at, spans) {
		t.Error("a second call's result shares memory with the first one's")
	}
	last, e := Tokens(s)
	if e != api.OK || !slices.Equal(last, copied) {
		t.Error("a call keeps what an earlier one returned")
	}
}
