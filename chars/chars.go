// Package chars: see doc/01-chars.md.
package chars

import "strings"

// What may stand in a token beside digits and letters.
const tokenMarks = "!#$%&'*+-.^_`|~"

// Bounds on how many digits a number is written with.
const (
	maxDigits    = 9
	maxHexDigits = 6
)

// Digit: is c one of 0 to 9?
func Digit(c byte) bool { return '0' <= c && c <= '9' }

// Letter: is c one of a to z, A to Z? No byte from 128 on is one.
func Letter(c byte) bool { return 'a' <= c && c <= 'z' || capital(c) }

// Token: may c stand in a token?
func Token(c byte) bool {
	return Digit(c) || Letter(c) || strings.IndexByte(tokenMarks, c) >= 0
}

// Visible: may c stand in a text that is shown? Bytes from 128 on may.
func Visible(c byte) bool { return c == '\t' || c >= ' ' && c != 127 }

// IsToken: is s a token? An empty text is none.
func IsToken(s string) bool { return s != "" && all(s, Token) }

// IsVisible: are all bytes of s visible? Those of an empty text are.
func IsVisible(s string) bool { return all(s, Visible) }

// Lower answers s with small letters. It goes by bytes, as strings.ToLower
// would change letters beyond Z and bytes that are no UTF-8.
func Lower(s string) string {
	b := []byte(s)
	for i, c := range b {
		if capital(c) {
			b[i] = c - 'A' + 'a'
		}
	}
	return string(b)
}

// Trim answers s without blanks and tabs at both ends. It answers a copy, as
// a piece of s would share its memory.
func Trim(s string) string { return strings.Clone(strings.Trim(s, " \t")) }

// Hex answers the digit to the base 16 that c is, or -1.
func Hex(c byte) int {
	switch {
	case Digit(c):
		return int(c - '0')
	case 'a' <= c && c <= 'f':
		return int(c-'a') + 10
	case 'A' <= c && c <= 'F':
		return int(c-'A') + 10
	}
	return -1
}

// Number reads 1 to 9 decimal digits.
func Number(s string) (int, bool) { return number(s, 10, maxDigits) }

// HexNumber reads 1 to 6 digits to the base 16.
func HexNumber(s string) (int, bool) { return number(s, 16, maxHexDigits) }

// number bounds how many digits there are, not how great the number is: so
// leading zeros count, too, and nothing runs over.
func number(s string, base, most int) (int, bool) {
	if s == "" || len(s) > most {
		return 0, false
	}
	n := 0
	for i := range len(s) {
		d := Hex(s[i])
		if d < 0 || d >= base {
			return 0, false
		}
		n = n*base + d
	}
	return n, true
}

func capital(c byte) bool { return 'A' <= c && c <= 'Z' }

func all(s string, is func(byte) bool) bool {
	for i := range len(s) {
		if !is(s[i]) {
			return false
		}
	}
	return true
}
