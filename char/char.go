// Package char tells what a byte of a text is, in the words of layer 2: the layers that read texts and those that write them share it.
package char

import "unicode/utf8"

// IsDigit reports whether a byte is a digit.
func IsDigit(b byte) bool { return '0' <= b && b <= '9' }

// IsLetter reports whether a byte is a letter from a to z or from A to Z.
func IsLetter(b byte) bool { return 'a' <= b && b <= 'z' || 'A' <= b && b <= 'Z' }

// IsSpace reports whether a byte is a space of a clean text.
func IsSpace(b byte) bool { return b == '\n' || b == '\t' || b == ' ' }

// IsQuote reports whether a byte is a quotation mark.
func IsQuote(b byte) bool { return b == '"' || b == '\'' }

// StartsName reports whether a byte starts a name.
func StartsName(b byte) bool { return IsLetter(b) || b == '_' || b >= utf8.RuneSelf }

// IsOfName reports whether a byte is one of a name.
func IsOfName(b byte) bool { return StartsName(b) || IsDigit(b) || b == '-' }
