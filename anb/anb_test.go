package anb_test

import (
	"math"
	"slices"
	"strings"
	"testing"

	"vitrine/anb"
	"vitrine/api"
)

const most = api.MaxWhole

func of(a, b int64) api.Anb { return api.Anb{A: a, B: b} }

func checkRead(t *testing.T, s string, want api.Anb, wantE api.Errno) {
	t.Helper()
	if a, e := anb.Read(s); a != want || e != wantE {
		t.Errorf("Read(%.40q) = %v, %d; want %v, %d", s, a, int(e), want, int(wantE))
	}
}

func checkOf(t *testing.T, l []api.Token, want api.Anb, wantE api.Errno) {
	t.Helper()
	if a, e := anb.Of(l); a != want || e != wantE {
		t.Errorf("Of(%+v) = %v, %d; want %v, %d", l, a, int(e), want, int(wantE))
	}
}

func TestExamples(t *testing.T) {
	checkRead(t, "odd", of(2, 1), api.OK)
	checkRead(t, "2n + 1", of(2, 1), api.OK)
	checkRead(t, "-N+3", of(-1, 3), api.OK)
	checkRead(t, "n-2", of(1, -2), api.OK)
	checkRead(t, "7", of(0, 7), api.OK)
	if s, e := anb.Text(of(2, 1)); s != "2n+1" || e != api.OK {
		t.Errorf("Text(2n+1) = %q, %v", s, e)
	}
	if l, e := anb.All(of(-1, 3), 64); !slices.Equal(l, []int{1, 2, 3}) || e != api.OK {
		t.Errorf("All(-n+3, 64) = %v, %v", l, e)
	}
}

// P7.1: Check, In and All.

var outOfRange = []int64{most + 1, -most - 1, 2 * most, -2 * most, 1000 * most, -1000 * most, 1 << 32, -1 << 32, math.MaxInt64, math.MinInt64, math.MinInt64 + 1}

func TestCheck(t *testing.T) {
	within := []int64{0, 1, -1, 2, -7, most - 1, most, 1 - most, -most}
	for _, x := range within {
		for _, y := range within {
			if e := anb.Check(of(x, y)); e != api.OK {
				t.Errorf("Check(%d, %d) = %v", x, y, e)
			}
		}
		for _, bad := range outOfRange {
			for _, a := range []api.Anb{of(bad, x), of(x, bad), of(bad, bad)} {
				if e := anb.Check(a); e != api.ErrBad {
					t.Errorf("Check(%v) = %d, want ErrBad", a, int(e))
				}
			}
		}
	}
}

func TestIn(t *testing.T) {
	for _, c := range []struct {
		a     api.Anb
		place int
		want  bool
	}{
		{of(2, 1), 1, true},
		{of(2, 1), 2, false},
		{of(2, 1), 3, true},
		{of(2, 0), 1, false},
		{of(2, 0), 2, true},
		{of(0, 0), 1, false},
		{of(0, 5), 5, true},
		{of(0, 5), 4, false},
		{of(0, 5), 6, false},
		{of(0, -5), 5, false},
		{of(1, 0), 1, true},
		{of(1, 0), most, true},
		{of(1, 3), 2, false},
		{of(1, 3), 3, true},
		{of(1, 3), 4, true},
		{of(1, -3), 1, true},
		{of(-1, 3), 3, true},
		{of(-1, 3), 1, true},
		{of(-1, 3), 4, false},
		{of(-1, 0), 1, false},
		{of(-2, 5), 4, false},
		{of(-2, 5), 3, true},
		{of(-2, 5), 5, true},
		{of(-2, 5), 7, false},
		{of(-2, -5), 5, false},
		{of(3, -1), 1, false},
		{of(3, -1), 2, true},
		{of(3, -1), 5, true},
		{of(5, 3), 8, true},
		{of(5, 8), 3, false},
		{of(-5, 8), 3, true},
		{of(most, 0), most, true},
		{of(most, 0), most - 1, false},
		{of(most, -most), most, true},
		{of(most, 1-most), 1, true},
		{of(most, -1), most - 1, true},
		{of(most, 1), 1, true},
		{of(most, 1), most, false},
		{of(-most, most), most, true},
		{of(-most, most), 1, false},
		{of(1-most, most), 1, true},
		{of(2, -most), most, true},
		{of(2, 1-most), most, false},
		{of(-2, most), 2, true},
		{of(-2, most), 1, false},
		{of(0, most), most, true},
		{of(0, -most), most, false},
	} {
		if is, e := anb.In(c.a, c.place); is != c.want || e != api.OK {
			t.Errorf("In(%v, %d) = %v, %v; want %v", c.a, c.place, is, e, c.want)
		}
	}
}

func TestInErrors(t *testing.T) {
	for _, place := range []int{0, -1, -most, most + 1, 2 * most, math.MaxInt, math.MinInt, 1 << 40} {
		for _, a := range []api.Anb{of(0, 0), of(1, 0), of(-1, -1), of(2, 1), of(0, int64(place%most))} {
			if is, e := anb.In(a, place); is || e != api.ErrArg {
				t.Errorf("In(%v, %d) = %v, %d; want ErrArg", a, place, is, int(e))
			}
		}
		for _, bad := range outOfRange {
			if is, e := anb.In(of(bad, 0), place); is || e != api.ErrBad {
				t.Errorf("In(%dn, %d) = %v, %d; want ErrBad", bad, place, is, int(e))
			}
		}
	}
	for _, bad := range outOfRange {
		for _, a := range []api.Anb{of(bad, 1), of(1, bad), of(0, bad)} {
			if is, e := anb.In(a, 1); is || e != api.ErrBad {
				t.Errorf("In(%v, 1) = %v, %d; want ErrBad", a, is, int(e))
			}
		}
	}
}

func TestAll(t *testing.T) {
	for _, c := range []struct {
		a    api.Anb
		most int
		want []int
	}{
		{of(2, 1), 0, nil},
		{of(1, 0), 0, nil},
		{of(2, 1), 1, []int{1}},
		{of(2, 1), 8, []int{1, 3, 5, 7}},
		{of(2, 0), 8, []int{2, 4, 6, 8}},
		{of(0, 4), 3, nil},
		{of(0, 4), 4, []int{4}},
		{of(0, 4), 64, []int{4}},
		{of(0, 0), 64, nil},
		{of(0, 64), 64, []int{64}},
		{of(0, 65), 64, nil},
		{of(-3, 8), 64, []int{2, 5, 8}},
		{of(-3, 8), 7, []int{2, 5}},
		{of(-3, 0), 64, nil},
		{of(20, -5), 64, []int{15, 35, 55}},
		{of(-20, 100), 64, []int{20, 40, 60}},
		{of(most, 2-most), 64, []int{2}},
		{of(-1, most), 3, []int{1, 2, 3}},
		{of(1, -most), 3, []int{1, 2, 3}},
	} {
		if l, e := anb.All(c.a, c.most); !slices.Equal(l, c.want) || e != api.OK {
			t.Errorf("All(%v, %d) = %v, %v; want %v", c.a, c.most, l, e, c.want)
		}
	}
	if l, e := anb.All(of(1, 0), api.MaxNodes); len(l) != api.MaxNodes || e != api.OK {
		t.Errorf("All(n, MaxNodes) has %d places, %v", len(l), e)
	}
}

func TestAllErrors(t *testing.T) {
	for _, many := range []int{-1, api.MaxNodes + 1, 1000, math.MaxInt, math.MinInt} {
		if l, e := anb.All(of(2, 1), many); l != nil || e != api.ErrArg {
			t.Errorf("All(2n+1, %d) = %v, %d; want ErrArg", many, l, int(e))
		}
	}
	for _, bad := range outOfRange {
		for _, a := range []api.Anb{of(bad, 1), of(1, bad), of(0, bad)} {
			for _, many := range []int{-1, 0, 3, 65} {
				if l, e := anb.All(a, many); l != nil || e != api.ErrBad {
					t.Errorf("All(%v, %d) = %v, %d; want ErrBad", a, many, l, int(e))
				}
			}
		}
	}
}

// P7.2: Text, Of and Read.

func TestText(t *testing.T) {
	for a, want := range map[api.Anb]string{
		of(0, 0):        "0",
		of(0, 1):        "1",
		of(0, -1):       "-1",
		of(0, 70):       "70",
		of(0, most):     "1000000000",
		of(0, -most):    "-1000000000",
		of(1, 0):        "n",
		of(-1, 0):       "-n",
		of(2, 0):        "2n",
		of(-2, 0):       "-2n",
		of(10, 0):       "10n",
		of(11, 0):       "11n",
		of(1, 1):        "n+1",
		of(1, -1):       "n-1",
		of(-1, 1):       "-n+1",
		of(-1, -1):      "-n-1",
		of(2, 1):        "2n+1",
		of(-25, 125):    "-25n+125",
		of(3, -40):      "3n-40",
		of(most, most):  "1000000000n+1000000000",
		of(-most, 1):    "-1000000000n+1",
		of(-1, -most):   "-n-1000000000",
		of(-most, most): "-1000000000n+1000000000",
	} {
		if s, e := anb.Text(a); s != want || e != api.OK {
			t.Errorf("Text(%v) = %q, %v; want %q", a, s, e, want)
		}
	}
	for _, bad := range outOfRange {
		for _, a := range []api.Anb{of(bad, 0), of(0, bad), of(1, bad), of(bad, bad)} {
			if s, e := anb.Text(a); s != "" || e != api.ErrBad {
				t.Errorf("Text(%v) = %q, %d; want ErrBad", a, s, int(e))
			}
		}
	}
}

func TestRead(t *testing.T) {
	for s, want := range map[string]api.Anb{
		"odd":                       of(2, 1),
		"ODD":                       of(2, 1),
		"oDd":                       of(2, 1),
		"even":                      of(2, 0),
		"EvEn":                      of(2, 0),
		" \n\todd ":                 of(2, 1),
		"\r\feven\r\n":              of(2, 0),
		"/**/ odd /* x */ ":         of(2, 1),
		" /**/ /**/ 7 /**/ /**/ ":   of(0, 7),
		`\6f dd`:                    of(2, 1),
		"0":                         of(0, 0),
		"-0":                        of(0, 0),
		"7":                         of(0, 7),
		"+7":                        of(0, 7),
		"-7":                        of(0, -7),
		"007":                       of(0, 7),
		"1000000000":                of(0, most),
		"99999999999999999999":      of(0, most),
		"-99999999999":              of(0, -most),
		"n":                         of(1, 0),
		"N":                         of(1, 0),
		"+n":                        of(1, 0),
		"+N":                        of(1, 0),
		"+/**/n":                    of(1, 0),
		"-n":                        of(-1, 0),
		"-N":                        of(-1, 0),
		`\6e`:                       of(1, 0),
		`\n`:                        of(1, 0),
		"1n":                        of(1, 0),
		"+1n":                       of(1, 0),
		"-1n":                       of(-1, 0),
		"0n":                        of(0, 0),
		"-0n":                       of(0, 0),
		"0n+3":                      of(0, 3),
		"0n-3":                      of(0, -3),
		"2n":                        of(2, 0),
		"+2N":                       of(2, 0),
		"-2n":                       of(-2, 0),
		" 2n ":                      of(2, 0),
		"1000000000n":               of(most, 0),
		"99999999999n":              of(most, 0),
		"-99999999999n":             of(-most, 0),
		"n-1":                       of(1, -1),
		"+n-1":                      of(1, -1),
		"-n-1":                      of(-1, -1),
		"2n-1":                      of(2, -1),
		"2N-012":                    of(2, -12),
		"n-0":                       of(1, 0),
		"n-00000000000000000003":    of(1, -3),
		"n-1000000000":              of(1, -most),
		"n-1000000001":              of(1, -most),
		"n-99999999999999999999999": of(1, -most),
		"n - 99999999999999999999":  of(1, -most),
		"2n+99999999999":            of(2, most),
		`n-\31`:                     of(1, -1),
		"n- 1":                      of(1, -1),
		"n- +1":                     of(1, -1),
		"n-+1":                      of(1, -1),
		"n- -0":                     of(1, 0),
		"n-/**/1":                   of(1, -1),
		"-n-\n\n3":                  of(-1, -3),
		"2n- 1":                     of(2, -1),
		"n+1":                       of(1, 1),
		"+n+1":                      of(1, 1),
		"-n+1":                      of(-1, 1),
		"2n+1":                      of(2, 1),
		"2n +1":                     of(2, 1),
		"2n -1":                     of(2, -1),
		"2n\n+1":                    of(2, 1),
		"2n+ 1":                     of(2, 1),
		"2n + 1":                    of(2, 1),
		"2n - 1":                    of(2, -1),
		"2n /**/ + /**/ /**/ 1":     of(2, 1),
		"2n + +1":                   of(2, 1),
		"2n - +1":                   of(2, -1),
		"2n++1":                     of(2, 1),
		"2n + -0":                   of(2, 0),
		"2n - 0":                    of(2, 0),
		"2n 1":                      of(2, 1),
		"n 1":                       of(1, 1),
		"-n 1":                      of(-1, 1),
		"2n/**/1":                   of(2, 1),
		"n/**/-1":                   of(1, -1),
		"n/**/-/**/1":               of(1, -1),
	} {
		checkRead(t, s, want, api.OK)
	}
}

func TestReadErrors(t *testing.T) {
	for _, s := range []string{
		"", " ", "/**/", "x", "oddly", "od", "even-", "odd 1", "odd+1", "+odd", "-odd", "+even", "1 odd", "odd odd", "od d",
		"7 7", "+ 7", "- 7", "--7", "1.5", "7.0", ".5", "1e3", "7%", "7px", "1 n", "7,", "(7)", `"7"`, "#n", "@n", "#7",
		"n n", "nn", "an", "n1", "n5", "m", "--n", "-+n", "+-n", "+ n", "- n", "+ +n", "++n", "+2 n", "+ 2n", "- 2n", "--2n", "+ -n", "n()", "n(", "-", "+", "+ ",
		"1.0n", "1.5n", ".5n", "1e3n", "1e1n+2", "2nn", "2m", "2na", "2n1", "2 n", "2%n", "n%",
		"n-a", "n-1a", "n--1", "n--", "n-1-", "n-1-2", "n_1", "n-_1", "n-1 1", "n-1 + 1", "n-1+1", "n-1 -1", "2n-1 1", "2n-1a", "2n--1", "2n-1.5", "n-1.5", "n-1e1", "n-\xd9\xa1", "n-+", "n-1+",
		"n-", "n- ", "2n-", "-n-", "n- -1", "n- - 1", "n- + 1", "n- 1.0", "n- .5", "n- 1 1", "n- n", "n- 1n", "n- 1%", "n- 1px", "2n- -1",
		"n+", "n +", "n + ", "n -", "n - ", "n + n", "n + -1", "n +-1", "n - -1", "n --1", "n + 1.0", "n + 1.5", "n - 1e1", "n 1.0", "n +1.0", "n+1.5", "n+1 1", "n + 1 1", "n 1 1", "n + + 1", "n - - 1", "n - + 1", "n + - 1", "n * 1", "n*1", "n/1", "n,1", "n + 1%", "n + 1px", "n + 1n", "n+1n", "n+n", "n + 1,", "n(1)", "n:1",
		"\x00", "n\x00", "\x00n", "n + 1 of a", "n of a", "odd of a",
	} {
		checkRead(t, s, api.Anb{}, api.ErrForm)
	}
	checkRead(t, strings.Repeat(" ", api.MaxText-1)+"n", of(1, 0), api.OK)
	checkRead(t, strings.Repeat(" ", api.MaxText)+"n", api.Anb{}, api.ErrLong)
	checkRead(t, "n-"+strings.Repeat("0", api.MaxText-3)+"9", of(1, -9), api.OK)
	checkRead(t, "n-"+strings.Repeat("9", api.MaxText-2), of(1, -most), api.OK)
	checkRead(t, strings.Repeat(",", api.MaxTokens), api.Anb{}, api.ErrForm)
	checkRead(t, strings.Repeat(",", api.MaxTokens+1), api.Anb{}, api.ErrMany)
	checkRead(t, "n"+strings.Repeat(" ,", 1000), api.Anb{}, api.ErrMany)
	checkRead(t, strings.Repeat(",", api.MaxText+1), api.Anb{}, api.ErrLong)
}

// Tokens.

var (
	space = api.Token{Kind: api.TokSpace}
	plus  = api.Token{Kind: api.TokDelim, Text: "+"}
	minus = api.Token{Kind: api.TokDelim, Text: "-"}
)

func name(s string) api.Token { return api.Token{Kind: api.TokIdent, Text: s} }

func number(n int64) api.Token { return api.Token{Kind: api.TokNumber, Num: 1000 * n, Flag: true} }

func dimension(n int64, unit string) api.Token {
	return api.Token{Kind: api.TokDimension, Num: 1000 * n, Unit: unit, Flag: true}
}

func tokens(l ...api.Token) []api.Token { return l }

func TestOf(t *testing.T) {
	for _, c := range []struct {
		l    []api.Token
		want api.Anb
	}{
		{tokens(name("oDD")), of(2, 1)},
		{tokens(space, space, name("even"), space, space), of(2, 0)},
		{tokens(number(5)), of(0, 5)},
		{tokens(space, number(-5), space), of(0, -5)},
		{tokens(number(-most)), of(0, -most)},
		{tokens(plus, name("N-2")), of(1, -2)},
		{tokens(plus, name("n-"), space, space, number(2)), of(1, -2)},
		{tokens(plus, name("n"), space, plus, space, number(2)), of(1, 2)},
		{tokens(name("-n"), minus, number(2)), of(-1, -2)},
		{tokens(name("n"), space, space, plus, space, space, number(2), space), of(1, 2)},
		{tokens(dimension(3, "N"), space, space, number(-2)), of(3, -2)},
		{tokens(dimension(3, "n-"), number(2)), of(3, -2)},
		{tokens(dimension(-3, "n-20")), of(-3, -20)},
		{tokens(dimension(0, "n"), plus, number(most)), of(0, most)},
		{tokens(dimension(most, "n-9999999999")), of(most, -most)},
	} {
		checkOf(t, c.l, c.want, api.OK)
	}
}

func TestOfErrors(t *testing.T) {
	one := api.Token{Kind: api.TokNumber, Num: 1000}
	oneN := api.Token{Kind: api.TokDimension, Num: 1000, Unit: "n"}
	for _, l := range [][]api.Token{
		nil,
		{},
		tokens(space),
		tokens(space, space),
		tokens(plus),
		tokens(minus),
		tokens(plus, space, name("n")),
		tokens(plus, plus, name("n")),
		tokens(minus, name("n")),
		tokens(plus, name("-n")),
		tokens(plus, name("odd")),
		tokens(plus, number(2)),
		tokens(plus, dimension(2, "n")),
		tokens(one),
		tokens(oneN),
		tokens(oneN, plus, number(1)),
		tokens(name("n"), one),
		tokens(name("n"), plus, one),
		tokens(name("n"), minus, one),
		tokens(name("n-"), one),
		tokens(name("n"), space, plus, space),
		tokens(name("n"), minus, number(-1)),
		tokens(name("n-"), space, minus, number(1)),
		tokens(name("n-1"), space, number(1)),
		tokens(name("n-1"), plus, number(1)),
		tokens(name("odd"), number(1)),
		tokens(name("odd"), name("odd")),
		tokens(number(1), number(1)),
		tokens(number(2), name("n")),
		tokens(name("")),
		tokens(name("-")),
		tokens(name("n+1")),
		tokens(name("+n")),
		tokens(name(" n")),
		tokens(name("n ")),
		tokens(name("n-1 ")),
		tokens(name("n- 1")),
		tokens(name("n-+1")),
		tokens(name("n--1")),
		tokens(name("--n")),
		tokens(name("2n")),
		tokens(name("odd ")),
		tokens(name("7")),
		tokens(dimension(2, "")),
		tokens(dimension(2, "-n")),
		tokens(dimension(2, "n+1")),
		tokens(dimension(2, "odd")),
	} {
		checkOf(t, l, api.Anb{}, api.ErrForm)
	}
}

func TestOtherKindsAreNone(t *testing.T) {
	for kind := range 256 {
		x := api.Token{Kind: uint8(kind), Text: "n"}
		if x.Kind == api.TokIdent || x.Kind == api.TokSpace {
			continue
		}
		checkOf(t, tokens(x), api.Anb{}, api.ErrForm)
		checkOf(t, tokens(plus, x), api.Anb{}, api.ErrForm)
		x.Text = "odd"
		checkOf(t, tokens(x), api.Anb{}, api.ErrForm)
		checkOf(t, tokens(name("n"), x), api.Anb{}, api.ErrForm)
		checkOf(t, tokens(name("n"), x, number(1)), api.Anb{}, api.ErrForm)
		checkOf(t, tokens(x, number(1)), api.Anb{}, api.ErrForm)
		x = api.Token{Kind: uint8(kind), Text: "+"}
		if x.Kind != api.TokDelim {
			checkOf(t, tokens(x, name("n")), api.Anb{}, api.ErrForm)
		}
		x = api.Token{Kind: uint8(kind), Num: 2000, Unit: "n", Flag: true}
		if x.Kind != api.TokNumber && x.Kind != api.TokDimension {
			checkOf(t, tokens(x), api.Anb{}, api.ErrForm)
		}
	}
}

// No text has such tokens: what they would be is no progression of whole numbers, or no valid one.
func TestTokensOfNoText(t *testing.T) {
	for _, n := range []int64{1, 999, 1001, -1500, 1000*most + 1, 1000*most + 1000, -1000*most - 1000, math.MaxInt64, math.MinInt64, math.MinInt64 + 808} {
		bad := api.Token{Kind: api.TokNumber, Num: n, Flag: true}
		for _, l := range [][]api.Token{
			tokens(bad),
			tokens(name("n"), bad),
			tokens(name("n"), plus, bad),
			tokens(name("n"), minus, bad),
			tokens(name("n-"), bad),
			tokens(api.Token{Kind: api.TokDimension, Num: n, Unit: "n", Flag: true}),
			tokens(api.Token{Kind: api.TokDimension, Num: n, Unit: "n-1", Flag: true}),
		} {
			checkOf(t, l, api.Anb{}, api.ErrForm)
		}
	}
}

func TestManyTokens(t *testing.T) {
	l := make([]api.Token, 1000000)
	for i := range l {
		l[i] = space
	}
	checkOf(t, l, api.Anb{}, api.ErrForm)
	l[500000] = name("n")
	checkOf(t, l, of(1, 0), api.OK)
	l[700000] = number(4)
	checkOf(t, l, of(1, 4), api.OK)
	l[600000] = minus
	checkOf(t, l, of(1, -4), api.OK)
	checkOf(t, tokens(name("n-"+strings.Repeat("9", 1000000))), of(1, -most), api.OK)
	checkOf(t, tokens(name("n-"+strings.Repeat("0", 1000000))), of(1, 0), api.OK)
	checkOf(t, tokens(name("n-"+strings.Repeat("9", 1000000)+"x")), api.Anb{}, api.ErrForm)
}

// P1: arguments are only read, not even behind their length; results share no memory, and nothing is kept.

func TestOfOnlyReads(t *testing.T) {
	room := tokens(space, name("-N"), space, minus, space, number(3), space, number(7), plus)
	before := slices.Clone(room)
	for range 2 {
		checkOf(t, room[:7], of(-1, -3), api.OK)
		checkOf(t, room[:6], of(-1, -3), api.OK)
		checkOf(t, room[:4], api.Anb{}, api.ErrForm)
		checkOf(t, room[:2], of(-1, 0), api.OK)
		checkOf(t, room, api.Anb{}, api.ErrForm)
	}
	if !slices.Equal(room, before) {
		t.Errorf("Of made %+v of %+v", room, before)
	}
}

func TestResultsAreOwn(t *testing.T) {
	want := []int{1, 3, 5, 7}
	first, _ := anb.All(of(2, 1), 8)
	second, _ := anb.All(of(2, 1), 8)
	clear(second[:cap(second)])
	third, _ := anb.All(of(2, 1), 8)
	if !slices.Equal(first, want) || !slices.Equal(third, want) {
		t.Errorf("All(2n+1, 8) = %v, and then %v", first, third)
	}
}
