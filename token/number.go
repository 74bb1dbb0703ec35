package token

import (
	"strings"

	"vitrine/api"
	"vitrine/char"
)

const (
	// places is how many digits behind the "." count: numbers are in thousandths.
	places = 3
	// mostDigits is how many digits MaxNumber has.
	mostDigits = 13
	// mostExponent is so great that the digits of a text cannot make up for it, in either direction.
	mostExponent = 2 * api.MaxText
)

func isSign(b byte) bool { return b == '+' || b == '-' }

func isExponentMark(b byte) bool { return b == 'e' || b == 'E' }

// digitStarts reports whether there is a digit at i, or one behind a sign.
func digitStarts(s string, i int) bool {
	if isSign(byteAt(s, i)) {
		i++
	}
	return char.IsDigit(byteAt(s, i))
}

func fractionStarts(s string, i int) bool {
	return byteAt(s, i) == '.' && char.IsDigit(byteAt(s, i+1))
}

func numberStarts(s string, i int) bool {
	if isSign(byteAt(s, i)) {
		i++
	}
	return char.IsDigit(byteAt(s, i)) || fractionStarts(s, i)
}

// readNumber returns the value of the number at i in thousandths, whether it is an integer, and where it ends.
func readNumber(s string, i int) (n int64, integer bool, end int) {
	sign := func() (minus bool) {
		minus = byteAt(s, i) == '-'
		if isSign(byteAt(s, i)) {
			i++
		}
		return minus
	}
	digits := func() string {
		start := i
		for char.IsDigit(byteAt(s, i)) {
			i++
		}
		return s[start:i]
	}
	integer = true
	minus := sign()
	whole, fraction, exponent := digits(), "", 0
	if fractionStarts(s, i) {
		integer = false
		i++
		fraction = digits()
	}
	if isExponentMark(byteAt(s, i)) && digitStarts(s, i+1) {
		integer = false
		i++
		down := sign()
		exponent = wholeNumber(digits())
		if down {
			exponent = -exponent
		}
	}
	n = cutNumber(whole+fraction, len(whole)+exponent+places)
	if minus {
		n = -n
	}
	return n, integer, i
}

// wholeNumber returns the number of some digits, held to mostExponent.
func wholeNumber(digits string) int {
	n := 0
	for i := range len(digits) {
		n = min(10*n+int(digits[i]-'0'), mostExponent)
	}
	return n
}

// cutNumber returns the number that has so many of the digits (or zeros behind them) in front of its point, cut to a whole one and held to MaxNumber.
func cutNumber(digits string, front int) int64 {
	counting := strings.TrimLeft(digits, "0")
	front -= len(digits) - len(counting)
	if counting == "" || front <= 0 {
		return 0
	}
	if front > mostDigits {
		return api.MaxNumber
	}
	var n int64
	for i := range front {
		n *= 10
		if i < len(counting) {
			n += int64(counting[i] - '0')
		}
	}
	return min(n, api.MaxNumber)
}
