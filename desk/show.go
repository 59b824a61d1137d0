package desk

import "lighterage/chars"

// digits to the base 16.
const digits = "0123456789abcdef"

// Show answers bytes as a text that stands in one line, all of it in bytes that
// can be seen.
func Show(l []byte) string {
	var b []byte
	for _, c := range l {
		switch {
		case c == '\r':
			b = append(b, `\r`...)
		case c == '\n':
			b = append(b, `\n`...)
		case c == '\\':
			b = append(b, `\\`...)
		case c == '\t', c > 126, !chars.Visible(c):
			b = append(b, '\\', 'x', digits[c>>4], digits[c&15])
		default:
			b = append(b, c)
		}
	}
	return string(b)
}

// Mean answers the bytes that such a text means. False: it is none. As a
// backslash alone has another meaning, any other byte may stand itself.
func Mean(s string) ([]byte, bool) {
	var b []byte
	for s != "" {
		c, n := first(s)
		if n == 0 {
			return nil, false
		}
		b = append(b, c)
		s = s[n:]
	}
	return b, true
}

// first answers the first byte that a text means, and how many of the text's
// bytes say so: 0, if it can't begin so. The text is not empty.
func first(s string) (byte, int) {
	switch {
	case s[0] != '\\':
		return s[0], 1
	case len(s) < len(`\r`):
		return 0, 0
	}
	switch s[1] {
	case 'r':
		return '\r', len(`\r`)
	case 'n':
		return '\n', len(`\n`)
	case '\\':
		return '\\', len(`\\`)
	case 'x':
		return coded(s)
	}
	return 0, 0
}

// coded is as first, of a text that begins with a backslash and an x.
func coded(s string) (byte, int) {
	if len(s) < len(`\xHH`) {
		return 0, 0
	}
	high, low := chars.Hex(s[2]), chars.Hex(s[3])
	if high < 0 || low < 0 {
		return 0, 0
	}
	return byte(high<<4 | low), len(`\xHH`)
}
