package char_test

import (
	"strings"
	"testing"

	"vitrine/char"
)

// The words of layer 2, for all bytes: those of 128 and more are told by a number.
func TestEachByte(t *testing.T) {
	const (
		digits  = "0123456789"
		letters = "abcdefghijklmnopqrstuvwxyzABCDEFGHIJKLMNOPQRSTUVWXYZ"
	)
	for _, c := range []struct {
		name  string
		is    func(byte) bool
		ascii string
		high  bool
	}{
		{"IsDigit", char.IsDigit, digits, false},
		{"IsLetter", char.IsLetter, letters, false},
		{"IsSpace", char.IsSpace, "\n\t ", false},
		{"IsQuote", char.IsQuote, "\x22\x27", false},
		{"StartsName", char.StartsName, letters + "_", true},
		{"IsOfName", char.IsOfName, letters + "_" + digits + "-", true},
	} {
		for i := range 256 {
			want := c.high
			if i < 128 {
				want = strings.IndexByte(c.ascii, byte(i)) >= 0
			}
			if got := c.is(byte(i)); got != want {
				t.Errorf("%s(%d) = %v", c.name, i, got)
			}
		}
	}
}
