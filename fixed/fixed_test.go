package fixed_test

import (
	"math"
	"strings"
	"testing"

	"vitrine/api"
	"vitrine/fixed"
)

const most = api.MaxNumber

// checkNumber reports a number and an error that are not those wanted; with an error the number is 0.
func checkNumber(t *testing.T, n int64, e api.Errno, want int64, wantE api.Errno, call string, args ...any) {
	t.Helper()
	if n != want || e != wantE {
		t.Errorf("%s(%v) = %d, %v; want %d, %v", call, args, n, e, want, wantE)
	}
}

func TestExample(t *testing.T) {
	for n, want := range map[int64]string{1500: "1.5", -20: "-0.02", 0: "0"} {
		if s, e := fixed.Write(n); e != api.OK || s != want {
			t.Errorf("Write(%d) = %q, %v", n, s, e)
		}
	}
	n, e := fixed.Mul(1500, 2500)
	checkNumber(t, n, e, 3750, api.OK, "Mul", 1500, 2500)
	n, e = fixed.Mul(1, 1)
	checkNumber(t, n, e, 0, api.OK, "Mul", 1, 1)
	n, e = fixed.Mul(1000000000000, 2000)
	checkNumber(t, n, e, 1000000000000, api.OK, "Mul", "10^12", 2000)
	n, e = fixed.Sum(1000000000000, 5, -5)
	checkNumber(t, n, e, 999999999995, api.OK, "Sum", "10^12", 5, -5)
}

// P6.1: Check, Read and Write.

var noNumbers = []int64{most + 1, -most - 1, most + 2, 2 * most, -2 * most, math.MaxInt64, math.MinInt64, math.MinInt64 + 1, math.MaxInt64 - most, math.MinInt64 + most, 1 << 40, -1 << 40, 1 << 62}

func TestCheck(t *testing.T) {
	for _, n := range []int64{0, 1, -1, 999, 1000, -1500, most - 1, most, 1 - most, -most} {
		if e := fixed.Check(n); e != api.OK {
			t.Errorf("Check(%d) = %v", n, e)
		}
	}
	for _, n := range noNumbers {
		if e := fixed.Check(n); e != api.ErrBad {
			t.Errorf("Check(%d) = %v, want ErrBad", n, e)
		}
	}
}

func TestRead(t *testing.T) {
	for s, want := range map[string]int64{
		"0":                0,
		"-0":               0,
		"+0":               0,
		"007":              7000,
		"1":                1000,
		"+1.5":             1500,
		"-1.5":             -1500,
		".5":               500,
		"-.25":             -250,
		"1.2345":           1234,
		"-1.2349":          -1234,
		".0009":            0,
		"1e3":              1000000,
		"1.5E-1":           150,
		"1e-4":             0,
		"1000000000":       most,
		"-1000000000":      -most,
		"1000000000.001":   most,
		"-1000000001":      -most,
		"999999999.999":    most - 1,
		"1e999":            most,
		"-1e999":           -most,
		"1" + zeros(399):   most,
		"0." + zeros(3000): 0,
	} {
		n, e := fixed.Read(s)
		checkNumber(t, n, e, want, api.OK, "Read", s)
	}
}

func zeros(count int) string { return strings.Repeat("0", count) }

func TestReadErrors(t *testing.T) {
	for s, want := range map[string]api.Errno{
		"":                       api.ErrForm,
		" ":                      api.ErrForm,
		"a":                      api.ErrForm,
		"1.":                     api.ErrForm,
		".":                      api.ErrForm,
		"-":                      api.ErrForm,
		"+":                      api.ErrForm,
		"--1":                    api.ErrForm,
		"- 1":                    api.ErrForm,
		"1 2":                    api.ErrForm,
		" 1":                     api.ErrForm,
		"1 ":                     api.ErrForm,
		"1%":                     api.ErrForm,
		"1px":                    api.ErrForm,
		"1/**/":                  api.ErrForm,
		"/**/1":                  api.ErrForm,
		"1e":                     api.ErrForm,
		"1,000":                  api.ErrForm,
		"0x10":                   api.ErrForm,
		"1_000":                  api.ErrForm,
		"1/2":                    api.ErrForm,
		"inf":                    api.ErrForm,
		"NaN":                    api.ErrForm,
		"\"1\"":                  api.ErrForm,
		"1\x00":                  api.ErrForm,
		zeros(api.MaxText + 1):   api.ErrLong,
		zeros(api.MaxText) + ")": api.ErrLong,
	} {
		n, e := fixed.Read(s)
		checkNumber(t, n, e, 0, want, "Read", s)
	}
	n, e := fixed.Read(zeros(api.MaxText))
	checkNumber(t, n, e, 0, api.OK, "Read", "many zeros")
}

func TestWrite(t *testing.T) {
	for n, want := range map[int64]string{
		0:         "0",
		1:         "0.001",
		-1:        "-0.001",
		10:        "0.01",
		100:       "0.1",
		101:       "0.101",
		110:       "0.11",
		11:        "0.011",
		999:       "0.999",
		-999:      "-0.999",
		1000:      "1",
		-1000:     "-1",
		1001:      "1.001",
		1010:      "1.01",
		1100:      "1.1",
		10000:     "10",
		-123456:   "-123.456",
		1000000:   "1000",
		most:      "1000000000",
		-most:     "-1000000000",
		most - 1:  "999999999.999",
		1 - most:  "-999999999.999",
		most - 10: "999999999.99",
	} {
		if s, e := fixed.Write(n); e != api.OK || s != want {
			t.Errorf("Write(%d) = %q, %v; want %q", n, s, e, want)
		}
	}
	for _, n := range noNumbers {
		if s, e := fixed.Write(n); e != api.ErrBad || s != "" {
			t.Errorf("Write(%d) = %q, %v; want ErrBad", n, s, e)
		}
	}
}

// P6.2: Sum and Mul.

func TestSum(t *testing.T) {
	for _, c := range []struct {
		l    []int64
		want int64
	}{
		{nil, 0},
		{[]int64{}, 0},
		{[]int64{0}, 0},
		{[]int64{7}, 7},
		{[]int64{-7}, -7},
		{[]int64{1, 2, -4}, -1},
		{[]int64{most}, most},
		{[]int64{most, 1}, most},
		{[]int64{-most, -1}, -most},
		{[]int64{most, 1, -1}, most - 1},
		{[]int64{1, -1, most}, most},
		{[]int64{-1, most, 1}, most},
		{[]int64{-most, -5, 5}, 5 - most},
		{[]int64{most, most, most, -most}, 0},
		{[]int64{most, most, -most, -most, -most}, -most},
		{[]int64{-most, most, most, most}, most},
		{[]int64{most - 1, 2, -2, 1}, most - 1},
	} {
		n, e := fixed.Sum(c.l...)
		checkNumber(t, n, e, c.want, api.OK, "Sum", c.l)
	}
}

func TestSumOfMany(t *testing.T) {
	many := make([]int64, 10000000)
	for i := range many {
		many[i] = most
	}
	n, e := fixed.Sum(many...)
	checkNumber(t, n, e, most, api.OK, "Sum", "many")
	many[len(many)-1] = -most
	n, e = fixed.Sum(many...)
	checkNumber(t, n, e, 0, api.OK, "Sum", "many, and then less")
	many[len(many)-1] = -most - 1
	n, e = fixed.Sum(many...)
	checkNumber(t, n, e, 0, api.ErrBad, "Sum", "many, and then none")
}

func TestMul(t *testing.T) {
	for _, c := range []struct{ a, b, want int64 }{
		{0, 0, 0},
		{0, most, 0},
		{0, -most, 0},
		{1000, 1000, 1000},
		{1000, 1, 1},
		{1, 999, 0},
		{1, 1000, 1},
		{1, 1999, 1},
		{-1, 1999, -1},
		{-1, 999, 0},
		{-333, 100, -33},
		{333, -100, -33},
		{-333, -100, 33},
		{1999, 1, 1},
		{16000, 1250, 20000},
		{most, 1000, most},
		{most, 999, most - most/1000},
		{most, 1001, most},
		{-most, 1001, -most},
		{-most, -1001, most},
		{most, -1000, -most},
		{most, most, most},
		{most, -most, -most},
		{-most, -most, most},
		{most, 1, most / 1000},
		{-most, 1, -most / 1000},
		{most - 1, 1000, most - 1},
		{most - 1, 1001, most},
		{1 - most, 1000, 1 - most},
		{31622776, 31622776, 999999961946},
		{31622776, -31622777, -999999993568},
		{31622777, 31622777, most},
		{999999999999, 1000, 999999999999},
		{3037000500, 3037000500, most},
		{4294967296, 4294967296, most},
		{1 << 32, 1 << 38, most},
		{1 << 37, 1 << 37, most},
		{most, 18446744073, most},
		{most, 18446744074, most},
		{-most, 18446744074, -most},
		{most, 18465190817, most},
		{most, 18465190818, most},
	} {
		n, e := fixed.Mul(c.a, c.b)
		checkNumber(t, n, e, c.want, api.OK, "Mul", c.a, c.b)
		n, e = fixed.Mul(c.b, c.a)
		checkNumber(t, n, e, c.want, api.OK, "Mul", c.b, c.a)
	}
}

// P6.3: Whole and Within.

func TestWhole(t *testing.T) {
	for n, want := range map[int64]int64{
		0:        0,
		1:        0,
		-1:       0,
		999:      0,
		-999:     0,
		1000:     1000,
		-1000:    -1000,
		1001:     1000,
		1999:     1000,
		-1999:    -1000,
		-2000:    -2000,
		123456:   123000,
		most:     most,
		-most:    -most,
		most - 1: most - 1000,
		1 - most: 1000 - most,
	} {
		got, e := fixed.Whole(n)
		checkNumber(t, got, e, want, api.OK, "Whole", n)
	}
}

func TestWithin(t *testing.T) {
	for _, c := range []struct {
		n, least, most, want int64
		e                    api.Errno
	}{
		{5, 0, 10, 5, api.OK},
		{-5, 0, 10, 0, api.OK},
		{15, 0, 10, 10, api.OK},
		{0, 0, 10, 0, api.OK},
		{10, 0, 10, 10, api.OK},
		{1, 0, 10, 1, api.OK},
		{9, 0, 10, 9, api.OK},
		{-3, -5, -2, -3, api.OK},
		{-6, -5, -2, -5, api.OK},
		{0, -5, -2, -2, api.OK},
		{7, 3, 3, 3, api.OK},
		{3, 3, 3, 3, api.OK},
		{-7, 3, 3, 3, api.OK},
		{most, -most, most, most, api.OK},
		{-most, -most, most, -most, api.OK},
		{most, -most, -most, -most, api.OK},
		{-most, most, most, most, api.OK},
		{5, 10, 0, 0, api.ErrArg},
		{5, 6, 5, 0, api.ErrArg},
		{5, 5, 4, 0, api.ErrArg},
		{0, most, -most, 0, api.ErrArg},
	} {
		n, e := fixed.Within(c.n, c.least, c.most)
		checkNumber(t, n, e, c.want, c.e, "Within", c.n, c.least, c.most)
	}
}

// ErrBad comes first, in each place of a number.
func TestNoNumbers(t *testing.T) {
	for _, bad := range noNumbers {
		n, e := fixed.Sum(bad)
		checkNumber(t, n, e, 0, api.ErrBad, "Sum", bad)
		n, e = fixed.Sum(1, bad, 2)
		checkNumber(t, n, e, 0, api.ErrBad, "Sum", 1, bad, 2)
		n, e = fixed.Sum(1, 2, bad)
		checkNumber(t, n, e, 0, api.ErrBad, "Sum", 1, 2, bad)
		n, e = fixed.Whole(bad)
		checkNumber(t, n, e, 0, api.ErrBad, "Whole", bad)
		for _, x := range []int64{0, 1000, most, -most, bad} {
			n, e = fixed.Mul(bad, x)
			checkNumber(t, n, e, 0, api.ErrBad, "Mul", bad, x)
			n, e = fixed.Mul(x, bad)
			checkNumber(t, n, e, 0, api.ErrBad, "Mul", x, bad)
			for _, y := range []int64{0, most, -most} {
				n, e = fixed.Within(bad, x, y)
				checkNumber(t, n, e, 0, api.ErrBad, "Within", bad, x, y)
				n, e = fixed.Within(x, bad, y)
				checkNumber(t, n, e, 0, api.ErrBad, "Within", x, bad, y)
				n, e = fixed.Within(x, y, bad)
				checkNumber(t, n, e, 0, api.ErrBad, "Within", x, y, bad)
			}
		}
	}
}
