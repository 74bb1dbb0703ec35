package anb_test

import (
	"fmt"
	"math/big"
	"math/rand"
	"regexp"
	"slices"
	"strconv"
	"strings"
	"testing"

	"vitrine/anb"
	"vitrine/api"
	"vitrine/input"
	"vitrine/token"
)

// The model of tokens: each one is written as a mark, and the definition is a pattern of marks.

func mark(t api.Token) string {
	n := big.NewInt(t.Num / 1000)
	switch {
	case t == space:
		return "_"
	case t == plus, t == minus:
		return t.Text
	case t.Kind == api.TokIdent:
		return "i" + strconv.Quote(strings.ToLower(t.Text))
	case t.Kind == api.TokNumber && t.Flag:
		return fmt.Sprintf("#%+d;", n)
	case t.Kind == api.TokDimension && t.Flag:
		return fmt.Sprintf("d%+d", n) + strconv.Quote(strings.ToLower(t.Unit))
	}
	return "x"
}

const (
	headForm = `(?:i"(?P<sign>-?)|\+i"|d(?P<a>[+-]\d+)")n`
	tailForm = `(?:-(?P<less>\d+)"|-"_*#\+(?P<less>\d+);|"|"_*#(?P<b>[+-]\d+);|"_*\+_*#(?P<b>\+\d+);|"_*-_*#\+(?P<less>\d+);)`
)

var marks = regexp.MustCompile(`^_*(?:(?P<odd>i"odd")|(?P<even>i"even")|#(?P<alone>[+-]\d+);|` + headForm + tailForm + `)_*$`)

// held returns the number that digits with or without a sign are, or MaxWhole with its sign, if it is greater.
func held(s string) int64 {
	n, ok := new(big.Int).SetString(s, 10)
	if !ok {
		panic(s)
	}
	if n.CmpAbs(big.NewInt(most)) > 0 {
		return int64(n.Sign()) * most
	}
	return n.Int64()
}

// byForm returns the progression that the groups of a pattern tell of a text.
func byForm(form *regexp.Regexp, s string) (api.Anb, api.Errno) {
	m := form.FindStringSubmatch(s)
	if m == nil {
		return api.Anb{}, api.ErrForm
	}
	a := of(1, 0)
	for i, group := range form.SubexpNames() {
		if m[i] == "" {
			continue
		}
		switch group {
		case "odd":
			return of(2, 1), api.OK
		case "even":
			return of(2, 0), api.OK
		case "alone":
			return of(0, held(m[i])), api.OK
		case "sign":
			a.A = held(m[i] + "1")
		case "a":
			a.A = held(m[i])
		case "b":
			a.B = held(m[i])
		case "less":
			a.B = -held(m[i])
		}
	}
	return a, api.OK
}

func modelOf(l []api.Token) (api.Anb, api.Errno) {
	var text strings.Builder
	for _, t := range l {
		text.WriteString(mark(t))
	}
	return byForm(marks, text.String())
}

func checkLikeModel(t *testing.T, l []api.Token) {
	t.Helper()
	want, wantE := modelOf(l)
	if a, e := anb.Of(l); a != want || e != wantE {
		t.Fatalf("Of(%+v) = %v, %d; want %v, %d", l, a, int(e), want, int(wantE))
	}
}

// eachList calls f with all lists of at most length of some tokens.
func eachList(length int, some []api.Token, f func(l []api.Token)) {
	var grow func(l []api.Token)
	grow = func(l []api.Token) {
		f(l)
		if len(l) < length {
			for _, t := range some {
				grow(append(l, t))
			}
		}
	}
	grow(make([]api.Token, 0, length))
}

func TestOfIsLikeTheModel(t *testing.T) {
	all := tokens(space, plus, minus, number(0), number(2), number(-3),
		name("n"), name("N"), name("-n"), name("n-"), name("-N-"), name("n-4"), name("-n-50"), name("n--4"), name("n-x"), name("nn"), name("odd"), name("Even"), name("-odd"), name("--n"), name("-"),
		dimension(2, "n"), dimension(-3, "N"), dimension(0, "n-"), dimension(1, "n-4"), dimension(5, "-n"), dimension(5, "px"),
		api.Token{Kind: api.TokNumber, Num: 2000}, api.Token{Kind: api.TokDimension, Num: 2000, Unit: "n"},
		api.Token{Kind: api.TokPercent, Num: 2000}, api.Token{Kind: api.TokFunction, Text: "n"}, api.Token{Kind: api.TokString, Text: "n"}, api.Token{Kind: api.TokHash, Text: "n", Flag: true}, api.Token{Kind: api.TokDelim, Text: "*"}, api.Token{Kind: api.TokComma})
	eachList(3, all, func(l []api.Token) { checkLikeModel(t, l) })
	few := tokens(space, plus, minus, number(0), number(2), number(-3), name("n"), name("n-"), name("-n-4"), dimension(2, "n"))
	eachList(5, few, func(l []api.Token) { checkLikeModel(t, l) })
	fewer := tokens(space, plus, minus, number(2), name("n"))
	eachList(8, fewer, func(l []api.Token) { checkLikeModel(t, l) })
}

// The model of texts without comments and escapes, in which signs are seen that tokens do not have.

const minusForm = `-(?:[ \n]*\+?(?P<less>\d+)|[ \n]+-0+)`

var textForm = regexp.MustCompile(`(?i)^[ \n]*(?:(?P<odd>odd)|(?P<even>even)|(?P<alone>[+-]?\d+)|(?:(?P<a>[+-]?\d+)|(?P<sign>[+-]?))n(?:[ \n]+(?P<b>\d+)|[ \n]*\+[ \n]*(?:\+?(?P<b>\d+)|-0+)|[ \n]*` + minusForm + `)?)[ \n]*$`)

func modelRead(s string) (api.Anb, api.Errno) { return byForm(textForm, s) }

// eachText calls f with all texts of at most length of some parts.
func eachText(length int, f func(s string), parts ...string) {
	var grow func(s string, left int)
	grow = func(s string, left int) {
		f(s)
		if left > 0 {
			for _, p := range parts {
				grow(s+p, left-1)
			}
		}
	}
	grow("", length)
}

func TestReadIsLikeTheModel(t *testing.T) {
	check := func(s string) {
		want, wantE := modelRead(s)
		if a, e := anb.Read(s); a != want || e != wantE {
			t.Fatalf("Read(%q) = %v, %d; want %v, %d", s, a, int(e), want, int(wantE))
		}
	}
	eachText(7, check, "n", "+", "-", "0", "13", " ")
	eachText(5, check, "N", "-", "+", "7", "\n", "odd", "n", "x", ".", "(", "even", "1000000001")
}

// P7.2: Read is Of of the tokens of a text, and says their error.
func TestReadIsOfTokens(t *testing.T) {
	check := func(s string) {
		var want api.Anb
		l, wantE := token.Tokens(s)
		if wantE == api.OK {
			want, wantE = anb.Of(l)
		}
		if a, e := anb.Read(s); a != want || e != wantE {
			t.Fatalf("Read(%.40q) = %v, %d; want %v, %d", s, a, int(e), want, int(wantE))
		}
	}
	eachText(4, check, "n", "-", "+", "1", " ", "/**/", "\r\n", "\x00", `\6e `, `\`, "%", "e", "OdD", ",", "(", "'")
	for _, long := range []int{1499, 1500, 1501, 1600, 4000, 4001} {
		for _, s := range []string{",", " ", "n", "1", "/", "\x00", "\r"} {
			check(strings.Repeat(s, long))
			check("n" + strings.Repeat(s, long-1))
			check(strings.Repeat(s, long-1) + "n")
		}
	}
}

// The model of places: a walk of steps, as the sum says.

// places returns which places up to upTo are in a progression.
func places(a api.Anb, upTo int64) map[int64]bool {
	in := map[int64]bool{}
	// No more steps are needed if A is not 0, as B is at most 100 here.
	for n := range int64(1000) {
		if place := a.A*n + a.B; place >= 1 && place <= upTo {
			in[place] = true
		}
	}
	return in
}

// eachSmall calls f with all progressions of small numbers.
func eachSmall(f func(a api.Anb)) {
	for a := int64(-12); a <= 12; a++ {
		for b := int64(-100); b <= 100; b++ {
			f(of(a, b))
		}
	}
}

func pick(random *rand.Rand) int64 {
	n := min(random.Int63n(1<<(1+random.Intn(31))), most)
	if random.Intn(2) == 0 {
		return -n
	}
	return n
}

// eachSome calls f with all small progressions, and many of all sizes.
func eachSome(f func(a api.Anb)) {
	eachSmall(f)
	edges := []int64{0, 1, -1, 2, -2, 9, 10, -10, 1000, most - 1, most, 1 - most, -most}
	for _, a := range edges {
		for _, b := range edges {
			f(of(a, b))
		}
	}
	random := rand.New(rand.NewSource(7))
	for range 100000 {
		f(of(pick(random), pick(random)))
	}
}

func TestPlacesAreLikeTheModel(t *testing.T) {
	eachSmall(func(a api.Anb) {
		in := places(a, 200)
		var want []int
		for place := 1; place <= 200; place++ {
			if is, e := anb.In(a, place); is != in[int64(place)] || e != api.OK {
				t.Fatalf("In(%v, %d) = %v, %v", a, place, is, e)
			}
			if in[int64(place)] && place <= api.MaxNodes {
				want = append(want, place)
			}
		}
		for upTo := range api.MaxNodes + 1 {
			if l, e := anb.All(a, upTo); e != api.OK || !slices.Equal(l, cut(want, upTo)) {
				t.Fatalf("All(%v, %d) = %v, %v; want %v", a, upTo, l, e, cut(want, upTo))
			}
		}
	})
}

// cut returns the places up to upTo of places in increasing order.
func cut(places []int, upTo int) []int {
	end, _ := slices.BinarySearch(places, upTo+1)
	return places[:end]
}

// P7.3

func isIn(t *testing.T, a api.Anb, place int64) bool {
	t.Helper()
	is, e := anb.In(a, int(place))
	if e != api.OK {
		t.Fatalf("In(%v, %d) = %v, %v", a, place, is, e)
	}
	return is
}

func isPlace(n int64) bool { return n >= 1 && n <= most }

func TestWhatTheSumSays(t *testing.T) {
	random := rand.New(rand.NewSource(71))
	eachSome(func(a api.Anb) {
		if isPlace(a.B) && !isIn(t, a, a.B) {
			t.Fatalf("B is not in %v", a)
		}
		step := a.A
		if step == 0 {
			step = 1
		}
		for range 10 {
			place := a.A*(random.Int63n(most)/max(step, -step)) + a.B + int64(random.Intn(2))
			if !isPlace(place) {
				continue
			}
			want := (place-a.B)%step == 0 && (place-a.B)/step >= 0 && (a.A != 0 || place == a.B)
			is := isIn(t, a, place)
			if is != want {
				t.Fatalf("In(%v, %d) = %v", a, place, is)
			}
			if is && isPlace(place+a.A) && !isIn(t, a, place+a.A) {
				t.Fatalf("%d is in %v, but not %d", place, a, place+a.A)
			}
			if is && a.A < 0 && place > a.B {
				t.Fatalf("%d is in %v", place, a)
			}
		}
	})
}

func TestHowManyPlaces(t *testing.T) {
	eachSome(func(a api.Anb) {
		l, e := anb.All(a, api.MaxNodes)
		if e != api.OK || a.A == 0 && len(l) > 1 {
			t.Fatalf("All(%v) = %v, %v", a, l, e)
		}
		for i, place := range l {
			if i > 0 && place <= l[i-1] || place < 1 || place > api.MaxNodes || a.A < 0 && int64(place) > a.B || !isIn(t, a, int64(place)) {
				t.Fatalf("All(%v) = %v", a, l)
			}
		}
	})
}

func TestWrittenAndReadIsTheSame(t *testing.T) {
	form := regexp.MustCompile(`^(?:0|-?[1-9]\d*|(?:-|(?:-?[1-9]\d*))?n(?:[+-][1-9]\d*)?)$`)
	texts := map[string]api.Anb{}
	eachSome(func(a api.Anb) {
		s, e := anb.Text(a)
		if b, f := anb.Read(s); e != api.OK || f != api.OK || b != a {
			t.Fatalf("Text(%v) = %q, %v; Read of it: %v, %v", a, s, e, b, f)
		}
		if !form.MatchString(s) || strings.HasPrefix(s, "1n") || strings.HasPrefix(s, "-1n") {
			t.Fatalf("Text(%v) = %q", a, s)
		}
		if b, is := texts[s]; is && b != a {
			t.Fatalf("%v and %v are both written %q", a, b, s)
		}
		texts[s] = a
	})
}

func TestLettersAndSpacesDoNotCount(t *testing.T) {
	eachSome(func(a api.Anb) {
		s, _ := anb.Text(a)
		factor, rest, is := strings.Cut(s, "n")
		variants := []string{strings.ToUpper(s), " " + s + "\n", "\t /**/ " + s + " "}
		if is && rest != "" {
			for _, between := range []string{" %s%s", "%s %s", " %s \n%s", "/**/ %s/**/\t%s"} {
				variants = append(variants, factor+"N"+fmt.Sprintf(between, rest[:1], rest[1:]))
			}
		}
		for _, v := range variants {
			if b, e := anb.Read(v); e != api.OK || b != a {
				t.Fatalf("Read(%q) = %v, %v; want %v", v, b, e, a)
			}
		}
	})
}

// However great the numbers of a text are, signs with and without spaces tell the same.
func TestHeldAlike(t *testing.T) {
	for _, digits := range []string{"999999999", "1000000000", "1000000001", "9223372036854775807", "9223372036854775808", "18446744073709551617", "18446744074709551616", strings.Repeat("9", 1000)} {
		for _, sign := range []string{"+", "-"} {
			want, e := anb.Read("2n " + sign + digits)
			if e != api.OK || want.B != held(sign+digits) {
				t.Errorf("Read(2n %s%.20s) = %v, %v", sign, digits, want, e)
			}
			for _, between := range []string{"2n%s%s", "2n%s %s", "2n %s %s", "2n/**/%s/**/%s"} {
				s := fmt.Sprintf(between, sign, digits)
				if a, e := anb.Read(s); e != api.OK || a != want {
					t.Errorf("Read(%.30q) = %v, %v; want %v", s, a, e, want)
				}
			}
		}
	}
}

func TestWhatIsReadIsValid(t *testing.T) {
	eachText(4, func(s string) {
		a, e := anb.Read(s)
		if e != api.OK && a != (api.Anb{}) || anb.Check(a) != api.OK {
			t.Fatalf("Read(%q) = %v, %d", s, a, int(e))
		}
	}, "99999999999", "-", "+", "n", " ", "0", "1000000000", "1")
}

func FuzzRead(f *testing.F) {
	for _, s := range []string{"odd", "2n + 1", "-N+3", "n-2", "7", "+n- 3", "99999999999n-99999999999", "/**/2n/**/1"} {
		f.Add(s)
	}
	f.Fuzz(func(t *testing.T, s string) {
		l, e := token.Tokens(s)
		if e != api.OK {
			return
		}
		checkLikeModel(t, l)
		if clean, _ := input.Clean(s); !strings.ContainsAny(clean, "/\\\t") {
			want, wantE := modelRead(clean)
			if a, e := anb.Read(s); a != want || e != wantE {
				t.Fatalf("Read(%q) = %v, %d; want %v, %d", s, a, int(e), want, int(wantE))
			}
		}
	})
}
