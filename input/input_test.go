package input

import (
	"math"
	"strings"
	"testing"

	"vitrine/api"
)

// shortTexts returns all texts of at most four of the pieces, among them each kind of line feed and a byte 0.
func shortTexts(pieces ...string) []string {
	all := []string{""}
	last := all
	for range 4 {
		var longer []string
		for _, s := range last {
			for _, p := range pieces {
				longer = append(longer, s+p)
			}
		}
		all = append(all, longer...)
		last = longer
	}
	return all
}

func dirtyTexts() []string {
	return shortTexts("a", "\r", "\n", "\f", "\x00", "\xef")
}

func cleanTexts() []string {
	return shortTexts("a", "\n", "\xef\xbf\xbd", "\xff")
}

func allBytes() string {
	var b []byte
	for i := range 256 {
		b = append(b, byte(i))
	}
	return string(b)
}

func mustClean(t *testing.T, s string) string {
	t.Helper()
	got, e := Clean(s)
	if e != api.OK {
		t.Fatalf("Clean(%q): %v", s, e)
	}
	return got
}

// P1.1

func TestCleanTexts(t *testing.T) {
	for _, c := range []struct{ text, want string }{
		{"", ""},
		{"a", "a"},
		{"a\r\nb", "a\nb"},
		{"a\rb", "a\nb"},
		{"a\fb", "a\nb"},
		{"a\nb", "a\nb"},
		{"\r", "\n"},
		{"\n", "\n"},
		{"\f", "\n"},
		{"\r\n", "\n"},
		{"\n\r", "\n\n"},
		{"\r\r", "\n\n"},
		{"\r\r\n", "\n\n"},
		{"\r\n\n", "\n\n"},
		{"\r\n\r\n", "\n\n"},
		{"\r\n\r", "\n\n"},
		{"\r\f", "\n\n"},
		{"\f\n", "\n\n"},
		{"\f\r\n", "\n\n"},
		{"\r\x00\n", "\n\xef\xbf\xbd\n"},
		{"\x00", "\xef\xbf\xbd"},
		{"\x00\x00", "\xef\xbf\xbd\xef\xbf\xbd"},
		{"\xef\xbf\xbd", "\xef\xbf\xbd"},
		{"\xff\xc3\x28", "\xff\xc3\x28"},
		{"\v\t \u0085\u2028", "\v\t \u0085\u2028"},
		{"a\r\n\f\r\x00b", "a\n\n\n\xef\xbf\xbdb"},
	} {
		if got, e := Clean(c.text); e != api.OK || got != c.want {
			t.Errorf("Clean(%q) = %q, %v; want %q", c.text, got, e, c.want)
		}
	}
}

func TestCleanKeepsOtherBytes(t *testing.T) {
	for _, b := range []byte(allBytes()) {
		if b == 0 || b == '\f' || b == '\r' {
			continue
		}
		s := "x" + string([]byte{b}) + "y"
		if got := mustClean(t, s); got != s {
			t.Errorf("Clean(%q) = %q", s, got)
		}
	}
}

func TestCleanIsLikeTheModel(t *testing.T) {
	model := strings.NewReplacer("\r\n", "\n", "\r", "\n", "\f", "\n", "\x00", "\xef\xbf\xbd")
	for _, s := range dirtyTexts() {
		if got, want := mustClean(t, s), model.Replace(s); got != want {
			t.Errorf("Clean(%q) = %q, want %q", s, got, want)
		}
	}
}

func TestCleanLength(t *testing.T) {
	for _, piece := range []string{"a", "\x00", "\r", "\n", "\r\n"} {
		s := strings.Repeat(piece, 4000/len(piece))
		if got, e := Clean(s); e != api.OK || got == "" {
			t.Errorf("4000 bytes of %q: %d bytes, %v", piece, len(got), e)
		}
		if got, e := Clean(s + "\n"); e != api.ErrLong || got != "" {
			t.Errorf("4001 bytes of %q: %d bytes, %v", piece, len(got), e)
		}
	}
}

func TestCleanMayTriple(t *testing.T) {
	got := mustClean(t, strings.Repeat("\x00", 4000))
	if len(got) != 12000 {
		t.Errorf("%d bytes", len(got))
	}
	if e := Check(got); e != api.OK {
		t.Errorf("Check of what Clean returned: %v", e)
	}
}

func TestCheck(t *testing.T) {
	for _, c := range []struct {
		text string
		want api.Errno
	}{
		{"", api.OK},
		{"a\nb", api.OK},
		{"\xef\xbf\xbd", api.OK},
		{"\x00", api.ErrBad},
		{"\f", api.ErrBad},
		{"\r", api.ErrBad},
		{"\r\n", api.ErrBad},
		{"\x00ab", api.ErrBad},
		{"a\fb", api.ErrBad},
		{"ab\r", api.ErrBad},
		{strings.Repeat("a", 4001), api.OK},
		{strings.Repeat("a", 12000), api.OK},
		{strings.Repeat("a", 11999) + "\r", api.ErrBad},
		{strings.Repeat("a", 12001), api.ErrLong},
		{strings.Repeat("\x00", 12001), api.ErrLong},
		{strings.Repeat("\r", 12000), api.ErrBad},
	} {
		if got := Check(c.text); got != c.want {
			t.Errorf("Check of %d bytes, %.8q: %v, want %v", len(c.text), c.text, got, c.want)
		}
	}
}

func TestCheckEachByte(t *testing.T) {
	for i, b := range []byte(allBytes()) {
		want := api.OK
		if i == 0 || i == 12 || i == 13 {
			want = api.ErrBad
		}
		if got := Check("x" + string([]byte{b})); got != want {
			t.Errorf("Check of the byte %d: %v, want %v", i, got, want)
		}
	}
}

// P1.2

func TestLines(t *testing.T) {
	for _, c := range []struct {
		text string
		want int
	}{
		{"", 1},
		{"a", 1},
		{"\n", 2},
		{"a\n", 2},
		{"\na", 2},
		{"a\n\nb", 3},
		{"\n\n\n", 4},
		{"\v\u2028", 1},
		{strings.Repeat("\n", 12000), 12001},
	} {
		if got, e := Lines(c.text); e != api.OK || got != c.want {
			t.Errorf("Lines(%.8q) = %d, %v; want %d", c.text, got, e, c.want)
		}
	}
	for _, s := range cleanTexts() {
		if got, e := Lines(s); e != api.OK || got != 1+strings.Count(s, "\n") {
			t.Errorf("Lines(%q) = %d, %v", s, got, e)
		}
	}
}

func TestPlaces(t *testing.T) {
	for _, c := range []struct {
		text             string
		at, line, column int
	}{
		{"", 0, 1, 1},
		{"a", 0, 1, 1},
		{"a", 1, 1, 2},
		{"\n", 0, 1, 1},
		{"\n", 1, 2, 1},
		{"ab\ncd", 1, 1, 2},
		{"ab\ncd", 2, 1, 3},
		{"ab\ncd", 3, 2, 1},
		{"ab\ncd", 4, 2, 2},
		{"ab\ncd", 5, 2, 3},
		{"ab\n", 3, 2, 1},
		{"\n\nx", 2, 3, 1},
		{"\xef\xbf\xbdx", 3, 1, 4},
		{strings.Repeat("a", 12000), 12000, 1, 12001},
	} {
		line, column, e := Place(c.text, c.at)
		if e != api.OK || line != c.line || column != c.column {
			t.Errorf("Place(%.8q, %d) = %d, %d, %v; want %d, %d", c.text, c.at, line, column, e, c.line, c.column)
		}
	}
}

func TestPlacesAreLikeTheModel(t *testing.T) {
	for _, s := range cleanTexts() {
		for at := 0; at <= len(s); at++ {
			wantLine := 1 + strings.Count(s[:at], "\n")
			wantColumn := at - strings.LastIndex(s[:at], "\n")
			line, column, e := Place(s, at)
			if e != api.OK || line != wantLine || column != wantColumn {
				t.Errorf("Place(%q, %d) = %d, %d, %v; want %d, %d", s, at, line, column, e, wantLine, wantColumn)
			}
		}
	}
}

func TestNoPlace(t *testing.T) {
	long := strings.Repeat("a", 12001)
	for _, c := range []struct {
		text string
		at   int
		want api.Errno
	}{
		{"", -1, api.ErrArg},
		{"", 1, api.ErrArg},
		{"ab", -1, api.ErrArg},
		{"ab", 3, api.ErrArg},
		{"ab\n", 4, api.ErrArg},
		{"ab", math.MinInt, api.ErrArg},
		{"ab", math.MaxInt, api.ErrArg},
		{"a\r", 0, api.ErrBad},
		{"a\r", 3, api.ErrBad},
		{"a\x00", -1, api.ErrBad},
		{"\f", 1, api.ErrBad},
		{long, 0, api.ErrLong},
		{long, -1, api.ErrLong},
		{long + "\r", 0, api.ErrLong},
	} {
		line, column, e := Place(c.text, c.at)
		if line != 0 || column != 0 || e != c.want {
			t.Errorf("Place(%.8q, %d) = %d, %d, %v; want %v", c.text, c.at, line, column, e, c.want)
		}
	}
}

func TestNoLines(t *testing.T) {
	long := strings.Repeat("\n", 12001)
	for text, want := range map[string]api.Errno{
		"\r":        api.ErrBad,
		"a\n\r\nb":  api.ErrBad,
		"a\fb":      api.ErrBad,
		"\x00":      api.ErrBad,
		long:        api.ErrLong,
		long + "\r": api.ErrLong,
	} {
		if n, e := Lines(text); n != 0 || e != want {
			t.Errorf("Lines(%.8q) = %d, %v; want %v", text, n, e, want)
		}
	}
}

// P1.3

func TestLowerEachByte(t *testing.T) {
	for i, b := range []byte(allBytes()) {
		want := b
		if 65 <= i && i <= 90 {
			want += 32
		}
		if got := Lower(string([]byte{b})); got != string([]byte{want}) {
			t.Errorf("Lower of the byte %d: %q", i, got)
		}
	}
}

func TestLowerTexts(t *testing.T) {
	for text, want := range map[string]string{
		"":              "",
		"Ab":            "ab",
		"DIV-x_9":       "div-x_9",
		"@AZ[`az{":      "@az[`az{",
		"\u00c9\u212a":  "\u00c9\u212a",
		"A\r\x00\xffB":  "a\r\x00\xffb",
		"\xc3A\x89\xdf": "\xc3a\x89\xdf",
	} {
		if got := Lower(text); got != want {
			t.Errorf("Lower(%q) = %q, want %q", text, got, want)
		}
	}
	if got := Lower(strings.Repeat("X", 20000)); got != strings.Repeat("x", 20000) {
		t.Error("a text of any length has small letters")
	}
}

func TestAlike(t *testing.T) {
	for _, c := range []struct {
		a, b string
		want bool
	}{
		{"", "", true},
		{"", "a", false},
		{"a", "ab", false},
		{"ab", "a", false},
		{"Ab", "aB", true},
		{"Hover", "HOVER", true},
		{"a", "b", false},
		{"xa", "xb", false},
		{"@", "`", false},
		{"[", "{", false},
		{"\u00e9", "\u00c9", false},
		{"k", "\u212a", false},
		{"s", "\u017f", false},
		{"\xff", "\xfe", false},
		{"\xff", "\ufffd", false},
		{"\xe1", "\xc1", false},
		{"\x00A", "\x00a", true},
		{strings.Repeat("X", 20000), strings.Repeat("x", 20000), true},
	} {
		if got := Alike(c.a, c.b); got != c.want {
			t.Errorf("Alike(%.8q, %.8q) = %v", c.a, c.b, got)
		}
	}
}

func TestAlikeEachTwoBytes(t *testing.T) {
	for _, x := range []byte(allBytes()) {
		for _, y := range []byte(allBytes()) {
			a, b := string([]byte{x}), string([]byte{y})
			if got, want := Alike(a, b), Lower(a) == Lower(b); got != want {
				t.Errorf("Alike(%q, %q) = %v", a, b, got)
			}
		}
	}
}

// P1.4

func TestCleanedTextsAreClean(t *testing.T) {
	for _, s := range append(dirtyTexts(), allBytes()) {
		once := mustClean(t, s)
		if e := Check(once); e != api.OK {
			t.Errorf("Check(Clean(%q)): %v", s, e)
		}
		if twice := mustClean(t, once); twice != once {
			t.Errorf("cleaned twice, %q is %q", s, twice)
		}
	}
	for _, s := range cleanTexts() {
		if got := mustClean(t, s); got != s {
			t.Errorf("Clean changed the clean text %q to %q", s, got)
		}
	}
}

func TestCleanedInParts(t *testing.T) {
	for _, s := range dirtyTexts() {
		whole := mustClean(t, s)
		for cut := 0; cut <= len(s); cut++ {
			a, b := s[:cut], s[cut:]
			parts := mustClean(t, a) + mustClean(t, b)
			split := strings.HasSuffix(a, "\r") && strings.HasPrefix(b, "\n")
			if same := parts == whole; same == split {
				t.Errorf("%q behind %q: %q, the whole is %q", b, a, parts, whole)
			}
		}
	}
}

func TestCleanedCounts(t *testing.T) {
	for _, s := range dirtyTexts() {
		got := mustClean(t, s)
		pairs := strings.Count(s, "\r\n")
		if want := len(s) - pairs + 2*strings.Count(s, "\x00"); len(got) != want {
			t.Errorf("Clean(%q) has %d bytes, want %d", s, len(got), want)
		}
		feeds := strings.Count(s, "\n") + strings.Count(s, "\r") + strings.Count(s, "\f") - pairs
		if n, e := Lines(got); e != api.OK || n != 1+feeds {
			t.Errorf("Clean(%q) has %d lines, %v, want %d", s, n, e, 1+feeds)
		}
	}
}

func TestAlikeIsAnEquivalence(t *testing.T) {
	texts := append(shortTexts("a", "A", "b")[:40], "[", "{", "\u00e9", "\u00c9", "k", "K", "\u212a")
	for _, a := range texts {
		if !Alike(a, a) || !Alike(a, Lower(a)) {
			t.Errorf("%q is not alike itself", a)
		}
		for _, b := range texts {
			if Alike(a, b) != Alike(b, a) || Alike(a, b) != (Lower(a) == Lower(b)) {
				t.Errorf("%q and %q", a, b)
			}
			for _, c := range texts {
				if Alike(a, b) && Alike(b, c) && !Alike(a, c) {
					t.Errorf("%q, %q and %q", a, b, c)
				}
			}
		}
	}
}

func TestSmallLettersStay(t *testing.T) {
	for _, s := range append(dirtyTexts(), allBytes()) {
		if low := Lower(s); Lower(low) != low {
			t.Errorf("small letters of %q changed", s)
		}
	}
}

// The chapter's example.

func TestExample(t *testing.T) {
	s := mustClean(t, "a\r\n\f\r\x00b")
	if s != "a\n\n\n\xef\xbf\xbdb" {
		t.Errorf("%q", s)
	}
	if n, e := Lines(s); e != api.OK || n != 4 {
		t.Error(n, e)
	}
	if line, column, e := Place(s, strings.IndexByte(s, 'b')); e != api.OK || line != 4 || column != 4 {
		t.Error(line, column, e)
	}
}

// P1: nothing panics, nothing is kept from call to call.

func TestSameAnswersAgain(t *testing.T) {
	texts := append(dirtyTexts(), allBytes(), strings.Repeat("\r", 4001), strings.Repeat("\x00", 12001))
	type answers struct {
		clean, low   string
		cleaned, bad api.Errno
		lines        int
		none         api.Errno
		line, column int
		nowhere      api.Errno
	}
	ask := func(s string) (a answers) {
		a.clean, a.cleaned = Clean(s)
		a.bad = Check(s)
		a.lines, a.none = Lines(s)
		a.line, a.column, a.nowhere = Place(s, 2)
		a.low = Lower(s)
		return a
	}
	var first []answers
	for _, s := range texts {
		first = append(first, ask(s))
	}
	for i, s := range texts {
		if ask(s) != first[i] {
			t.Errorf("%.8q has other answers the second time", s)
		}
	}
}
