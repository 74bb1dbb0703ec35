package fixed_test

import (
	"fmt"
	"math/big"
	"math/rand"
	"regexp"
	"slices"
	"strings"
	"testing"

	"vitrine/api"
	"vitrine/fixed"
	"vitrine/token"
)

// The model: the definitions of the chapter, with numbers of any size.

func whole(n int64) *big.Int { return big.NewInt(n) }

func modelNumber(n int64) bool { return whole(n).CmpAbs(whole(most)) <= 0 }

func held(n *big.Int) int64 {
	if n.CmpAbs(whole(most)) <= 0 {
		return n.Int64()
	}
	return most * int64(n.Sign())
}

func modelMul(a, b int64) int64 {
	n := new(big.Int).Mul(whole(a), whole(b))
	return held(n.Quo(n, whole(1000)))
}

func modelSum(l []int64) int64 {
	var sum int64
	for _, n := range l {
		sum = held(new(big.Int).Add(whole(sum), whole(n)))
	}
	return sum
}

func modelWrite(n int64) string {
	size := new(big.Int).Abs(whole(n))
	digits := fmt.Sprintf("%04v", size)
	text := digits[:len(digits)-3] + "." + digits[len(digits)-3:]
	text = strings.TrimSuffix(strings.TrimRight(text, "0"), ".")
	if n < 0 {
		return "-" + text
	}
	return text
}

// some returns numbers of all sizes, and some that are almost, or are, none.
func some() []int64 {
	l := []int64{0}
	for _, near := range []int64{0, 10, 100, 999, 1000, 1500, 10000, 123456, 31622776, 999999999, 1000000000, 1 << 31, 1 << 32, 3037000500, 18446744, 500000000000, 999999999000, most, most + 1000} {
		for d := int64(-2); d <= 2; d++ {
			l = append(l, near+d, -near+d)
		}
	}
	return append(l, noNumbers...)
}

func pick(random *rand.Rand) int64 {
	n := random.Int63n(1 << (1 + random.Intn(41)))
	if random.Intn(2) == 0 {
		return -n
	}
	return n
}

// eachPair calls f with pairs, of whom most are numbers.
func eachPair(f func(a, b int64)) {
	l := some()
	for _, a := range l {
		for _, b := range l {
			f(a, b)
		}
	}
	random := rand.New(rand.NewSource(6))
	for range 300000 {
		f(pick(random), pick(random))
	}
}

// eachNumber calls f with many numbers.
func eachNumber(f func(n int64)) {
	for n := int64(-30000); n <= 30000; n++ {
		f(n)
	}
	for n := int64(most - 3000); n <= most; n++ {
		f(n)
		f(-n)
	}
	random := rand.New(rand.NewSource(61))
	for range 100000 {
		if n := pick(random); modelNumber(n) {
			f(n)
		}
	}
}

func TestMulIsLikeTheModel(t *testing.T) {
	eachPair(func(a, b int64) {
		n, e := fixed.Mul(a, b)
		if !modelNumber(a) || !modelNumber(b) {
			if n != 0 || e != api.ErrBad {
				t.Fatalf("Mul(%d, %d) = %d, %v", a, b, n, e)
			}
			return
		}
		if want := modelMul(a, b); e != api.OK || n != want {
			t.Fatalf("Mul(%d, %d) = %d, %v; want %d", a, b, n, e, want)
		}
	})
}

func TestSumIsLikeTheModel(t *testing.T) {
	random := rand.New(rand.NewSource(62))
	check := func(l ...int64) {
		n, e := fixed.Sum(l...)
		if !slices.ContainsFunc(l, func(n int64) bool { return !modelNumber(n) }) {
			if want := modelSum(l); e != api.OK || n != want {
				t.Fatalf("Sum(%v) = %d, %v; want %d", l, n, e, want)
			}
		} else if n != 0 || e != api.ErrBad {
			t.Fatalf("Sum(%v) = %d, %v", l, n, e)
		}
	}
	eachPair(func(a, b int64) { check(a, b) })
	for range 50000 {
		var l []int64
		for range random.Intn(12) {
			if random.Intn(3) > 0 {
				l = append(l, []int64{most, -most, most - 1, 1 - most, 1, -1}[random.Intn(6)])
			} else {
				l = append(l, pick(random))
			}
		}
		check(l...)
	}
}

func TestCheckIsLikeTheModel(t *testing.T) {
	eachPair(func(a, b int64) {
		for _, n := range []int64{a, b, a + b, a * b} {
			if e := fixed.Check(n); (e == api.OK) != modelNumber(n) || e != api.OK && e != api.ErrBad {
				t.Fatalf("Check(%d) = %v", n, e)
			}
		}
	})
}

func TestWriteIsLikeTheModel(t *testing.T) {
	eachNumber(func(n int64) {
		if s, e := fixed.Write(n); e != api.OK || s != modelWrite(n) {
			t.Fatalf("Write(%d) = %q, %v; want %q", n, s, e, modelWrite(n))
		}
	})
}

func TestWholeIsLikeTheModel(t *testing.T) {
	thousand := whole(1000)
	eachNumber(func(n int64) {
		want := new(big.Int).Quo(whole(n), thousand)
		want.Mul(want, thousand)
		if got, e := fixed.Whole(n); e != api.OK || got != want.Int64() {
			t.Fatalf("Whole(%d) = %d, %v; want %v", n, got, e, want)
		}
	})
}

func TestWithinIsLikeTheModel(t *testing.T) {
	random := rand.New(rand.NewSource(63))
	check := func(n, least, greatest int64) {
		got, e := fixed.Within(n, least, greatest)
		want, wantE := n, api.OK
		switch {
		case !modelNumber(n) || !modelNumber(least) || !modelNumber(greatest):
			want, wantE = 0, api.ErrBad
		case least > greatest:
			want, wantE = 0, api.ErrArg
		case n < least:
			want = least
		case n > greatest:
			want = greatest
		}
		if got != want || e != wantE {
			t.Fatalf("Within(%d, %d, %d) = %d, %v; want %d, %v", n, least, greatest, got, e, want, wantE)
		}
	}
	eachPair(func(a, b int64) {
		check(a, b, b)
		check(a, b, pick(random))
		check(pick(random), a, b)
	})
}

// P6.1: Read says what token.Value says.

func TestReadIsValue(t *testing.T) {
	random := rand.New(rand.NewSource(64))
	parts := []string{"0", "1", "9", "25", ".", "-", "+", "e", "E3", "e-2", "000", "%", "px", " ", "/**/", "\\31 ", "\x00", "1000000000", "(", "\""}
	check := func(s string) {
		want, _, e := token.Value(s)
		if e != api.OK {
			want = 0
		}
		if n, f := fixed.Read(s); n != want || f != e {
			t.Fatalf("Read(%q) = %d, %v; want %d, %v", s, n, f, want, e)
		}
	}
	for range 100000 {
		var s string
		for range random.Intn(8) {
			s += parts[random.Intn(len(parts))]
		}
		check(s)
	}
	for i := range 6000 {
		check(strings.Repeat("1", i))
	}
}

// P6.4: written and read numbers are the same, and there is one text for each.

func TestWrittenAndReadIsTheSame(t *testing.T) {
	form := regexp.MustCompile(`^(-?[1-9][0-9]*(\.[0-9]{0,2}[1-9])?|-?0\.[0-9]{0,2}[1-9]|0)$`)
	texts := map[string]int64{}
	eachNumber(func(n int64) {
		s, e := fixed.Write(n)
		if m, f := fixed.Read(s); e != api.OK || f != api.OK || m != n {
			t.Fatalf("Write(%d) = %q, %v; Read of it: %d, %v", n, s, e, m, f)
		}
		if !form.MatchString(s) {
			t.Fatalf("Write(%d) = %q", n, s)
		}
		if m, is := texts[s]; is && m != n {
			t.Fatalf("%d and %d are both written %q", m, n, s)
		}
		texts[s] = n
	})
}

func TestWhatIsReadIsANumber(t *testing.T) {
	random := rand.New(rand.NewSource(65))
	for range 50000 {
		s := fmt.Sprintf("%d.%de%d", random.Intn(1000)-500, random.Intn(100000), random.Intn(30)-15)
		n, e := fixed.Read(s)
		if e != api.OK || fixed.Check(n) != api.OK {
			t.Fatalf("Read(%q) = %d, %v", s, n, e)
		}
	}
}

// P6.4: products do not depend on the order, keep it, and are off by less than a thousandth, unless they are held.

func TestProducts(t *testing.T) {
	random := rand.New(rand.NewSource(66))
	thousand := whole(1000)
	eachPair(func(a, b int64) {
		if !modelNumber(a) || !modelNumber(b) {
			return
		}
		n, _ := fixed.Mul(a, b)
		if m, _ := fixed.Mul(b, a); m != n {
			t.Fatalf("Mul(%d, %d) = %d, but %d the other way", a, b, n, m)
		}
		off := new(big.Int).Mul(whole(a), whole(b))
		off.Sub(off, new(big.Int).Mul(whole(n), thousand))
		if n != most && n != -most && off.CmpAbs(thousand) >= 0 {
			t.Fatalf("Mul(%d, %d) = %d is off by %v", a, b, n, off)
		}
		c := a + random.Int63n(1+int64(random.Intn(3000)))
		if b < 0 || !modelNumber(c) {
			return
		}
		if m, _ := fixed.Mul(c, b); m < n {
			t.Fatalf("Mul(%d, %d) = %d, but Mul(%d, %d) = %d", a, b, n, c, b, m)
		}
	})
}

// P6.4: nothing wraps, so that each result is a number.

func TestResultsAreNumbers(t *testing.T) {
	eachPair(func(a, b int64) {
		product, _ := fixed.Mul(a, b)
		sum, _ := fixed.Sum(a, b, a, b)
		cut, _ := fixed.Whole(a)
		within, _ := fixed.Within(a, b, most)
		for _, n := range []int64{product, sum, cut, within} {
			if !modelNumber(n) {
				t.Fatalf("%d and %d give %d", a, b, n)
			}
		}
	})
}

// P1: arguments are only read, and nothing is kept.

func TestSumOnlyReads(t *testing.T) {
	room := []int64{most, 5, -5, 7, most + 1, -8}
	before := slices.Clone(room)
	for range 2 {
		n, e := fixed.Sum(room[:3]...)
		checkNumber(t, n, e, most-5, api.OK, "Sum", room[:3])
		if !slices.Equal(room, before) {
			t.Fatalf("Sum made %v of %v", room, before)
		}
		n, e = fixed.Sum(room...)
		checkNumber(t, n, e, 0, api.ErrBad, "Sum", room)
	}
}

func TestAnswersStayTheSame(t *testing.T) {
	eachPair(func(a, b int64) {
		product, e := fixed.Mul(a, b)
		text, f := fixed.Write(a)
		fixed.Sum(b, a)
		fixed.Write(b)
		if m, g := fixed.Mul(a, b); m != product || g != e {
			t.Fatalf("Mul(%d, %d) = %d, %v, and then %d, %v", a, b, product, e, m, g)
		}
		if s, g := fixed.Write(a); s != text || g != f {
			t.Fatalf("Write(%d) = %q, %v, and then %q, %v", a, text, f, s, g)
		}
	})
}
