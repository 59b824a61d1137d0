package chars

import (
	"strings"
	"testing"
	"unsafe"
)

const (
	digits = "0123456789"
	small  = "abcdefghijklmnopqrstuvwxyz"
	large  = "ABCDEFGHIJKLMNOPQRSTUVWXYZ"
	marks  = "!#$%&'*+-.^_`|~"
)

// shown: all bytes that are Visible, written out from their ranges.
func shown() string {
	b := []byte{9}
	for c := 32; c <= 126; c++ {
		b = append(b, byte(c))
	}
	for c := 128; c <= 255; c++ {
		b = append(b, byte(c))
	}
	return string(b)
}

// samples: texts for what holds of every text: all of at most two bytes, and
// some long ones.
func samples() []string {
	l := []string{""}
	for c := range 256 {
		l = append(l, string([]byte{byte(c)}))
	}
	for c := range 256 * 256 {
		l = append(l, string([]byte{byte(c >> 8), byte(c)}))
	}
	for _, s := range []string{"0", "f", "Z", " ", "\t", "\x00", "\x80", "\xff", "é", "\r\n", "-1", " x "} {
		l = append(l, strings.Repeat(s, 100000))
	}
	return l
}

func TestKindsOfBytes(t *testing.T) {
	for _, x := range []struct {
		name string
		is   func(byte) bool
		set  string
	}{
		{"Digit", Digit, digits},
		{"Letter", Letter, small + large},
		{"Token", Token, digits + small + large + marks},
		{"Visible", Visible, shown()},
	} {
		var want [256]bool
		for i := range len(x.set) {
			want[x.set[i]] = true
		}
		for c := range 256 {
			if got := x.is(byte(c)); got != want[c] {
				t.Errorf("%s(%d): %v, want %v", x.name, c, got, want[c])
			}
		}
	}
}

// The first and last byte of each range, and the bytes beside them, by name.
func TestEdgesOfRanges(t *testing.T) {
	for _, x := range []struct {
		name    string
		is      func(byte) bool
		in, out []byte
	}{
		{"Digit", Digit, []byte{'0', '9'}, []byte{'/', ':', 0, 0xb0, 255}},
		{"Letter", Letter, []byte{'a', 'z', 'A', 'Z'}, []byte{'`', '{', '@', '[', '0', 0xc1, 0xe1}},
		{"Token", Token, []byte{'!', '~', '0', '9', 'a', 'z', 'A', 'Z', '`', '^', '_'}, []byte{0, 9, 32, 127, 128, 255, '"', '(', ')', ',', '/', ':', ';', '<', '=', '>', '?', '@', '[', '\\', ']', '{', '}'}},
		{"Visible", Visible, []byte{9, 32, 33, 126, 128, 255}, []byte{0, 8, 10, 13, 31, 127}},
	} {
		for _, c := range x.in {
			if !x.is(c) {
				t.Errorf("%s(%d): false, want true", x.name, c)
			}
		}
		for _, c := range x.out {
			if x.is(c) {
				t.Errorf("%s(%d): true, want false", x.name, c)
			}
		}
	}
}

func TestIsToken(t *testing.T) {
	for s, want := range map[string]bool{
		"": false, "a": true, "Content-Type": true, "a.b": true, digits: true,
		marks: true, small + large: true,
		" ": false, " a": false, "a ": false, "a b": false, "\ta": false, "a\t": false,
		"a:": false, ":a": false, "a/b": false, "a\x7f": false, "a\x80": false,
		"\x00": false, "é": false, "a\r": false, "\na": false,
	} {
		if got := IsToken(s); got != want {
			t.Errorf("IsToken(%q): %v, want %v", s, got, want)
		}
	}
}

func TestIsVisible(t *testing.T) {
	for s, want := range map[string]bool{
		"": true, "a": true, " ": true, "\t": true, "a b\tc": true, "~": true,
		"\x80\xff": true, "é": true, shown(): true,
		"a\r": false, "\na": false, "a\x00b": false, "\x1f": false, "\x7f": false,
		"a\x7f": false, "\x08a": false, "\x0b": false,
	} {
		if got := IsVisible(s); got != want {
			t.Errorf("IsVisible(%q): %v, want %v", s, got, want)
		}
	}
}

func TestLower(t *testing.T) {
	for s, want := range map[string]string{
		"": "", "a": "a", "A": "a", "aZ\x80": "az\x80", "Content-TYPE": "content-type",
		large: small, small: small, digits: digits, "@[`{": "@[`{",
		"\xc1\xda\xff": "\xc1\xda\xff", "ÀÉ": "ÀÉ", "\u212a": "\u212a", " A\tB ": " a\tb ", "\x00A\x7f": "\x00a\x7f",
	} {
		if got := Lower(s); got != want {
			t.Errorf("Lower(%q): %q, want %q", s, got, want)
		}
	}
	for c := range 256 {
		want := byte(c)
		if i := strings.IndexByte(large, want); i >= 0 {
			want = small[i]
		}
		if got := Lower(string([]byte{byte(c)})); got != string([]byte{want}) {
			t.Errorf("Lower of the byte %d: %q, want %q", c, got, string([]byte{want}))
		}
	}
}

func TestTrim(t *testing.T) {
	for s, want := range map[string]string{
		"": "", "a": "a", " a": "a", "a ": "a", "\ta": "a", "a\t": "a",
		" \ta b\t": "a b", "\t \t a\t b \t \t": "a\t b", "a b": "a b", "a\tb": "a\tb",
		" ": "", "\t": "", "  ": "", " \t \t ": "",
		"\na\r": "\na\r", " \na\r ": "\na\r", "\x0ba\x0c": "\x0ba\x0c", "\x00 a": "\x00 a",
		"\x80 a \xff": "\x80 a \xff", " \x80\xff ": "\x80\xff", "\xa0a\xa0": "\xa0a\xa0",
		"\u00a0a\u2003": "\u00a0a\u2003", "\x85a\x85": "\x85a\x85",
	} {
		if got := Trim(s); got != want {
			t.Errorf("Trim(%q): %q, want %q", s, got, want)
		}
	}
}

func TestHex(t *testing.T) {
	var want [256]int
	for c := range want {
		want[c] = -1
	}
	for d := range 16 {
		want["0123456789abcdef"[d]] = d
		want["0123456789ABCDEF"[d]] = d
	}
	for c := range 256 {
		if got := Hex(byte(c)); got != want[c] {
			t.Errorf("Hex(%d): %d, want %d", c, got, want[c])
		}
	}
}

type reading struct {
	s  string
	n  int
	ok bool
}

func checkReadings(t *testing.T, name string, read func(string) (int, bool), l []reading) {
	t.Helper()
	for _, x := range l {
		if n, ok := read(x.s); n != x.n || ok != x.ok {
			t.Errorf("%s(%q): %d, %v, want %d, %v", name, x.s, n, ok, x.n, x.ok)
		}
	}
}

func TestNumber(t *testing.T) {
	checkReadings(t, "Number", Number, []reading{
		{"0", 0, true}, {"1", 1, true}, {"9", 9, true}, {"10", 10, true}, {"007", 7, true},
		{"12345678", 12345678, true}, {"123456789", 123456789, true}, {"999999999", 999999999, true},
		{"000000000", 0, true}, {"000000001", 1, true}, {"100000000", 100000000, true},
	})
	checkReadings(t, "Number", Number, []reading{
		{s: ""}, {s: "1234567890"}, {s: "0000000000"}, {s: "0000000001"}, {s: "18446744073709551617"},
		{s: "-1"}, {s: "+1"}, {s: "-"}, {s: "+"}, {s: " "}, {s: " 1"}, {s: "1 "}, {s: "1 2"}, {s: "\t1"}, {s: "1\t"},
		{s: "a"}, {s: "1a"}, {s: "a1"}, {s: "A"}, {s: "0x1"}, {s: "1e3"}, {s: "1_0"}, {s: "1.0"}, {s: "1,0"},
		{s: "/"}, {s: ":"}, {s: "1/"}, {s: "1:"}, {s: "1\n"}, {s: "1\x00"}, {s: "\xb1"}, {s: "1\x80"}, {s: "١"},
	})
}

func TestHexNumber(t *testing.T) {
	checkReadings(t, "HexNumber", HexNumber, []reading{
		{"0", 0, true}, {"9", 9, true}, {"a", 10, true}, {"A", 10, true}, {"f", 15, true}, {"F", 15, true},
		{"10", 16, true}, {"Ff", 255, true}, {"fF", 255, true}, {"00a", 10, true}, {"12345", 0x12345, true},
		{"ffffff", 0xffffff, true}, {"FFFFFF", 0xffffff, true}, {"aBcDeF", 0xabcdef, true},
		{"123456", 0x123456, true}, {"000000", 0, true}, {"000001", 1, true}, {"100000", 0x100000, true},
	})
	checkReadings(t, "HexNumber", HexNumber, []reading{
		{s: ""}, {s: "1000000"}, {s: "0000000"}, {s: "0000001"}, {s: "fffffff"}, {s: "10000000000000001"},
		{s: "-1"}, {s: "+1"}, {s: "-"}, {s: "+"}, {s: " "}, {s: " 1"}, {s: "1 "}, {s: "1 2"}, {s: "\tf"}, {s: "f\t"},
		{s: "g"}, {s: "G"}, {s: "1g"}, {s: "g1"}, {s: "z"}, {s: "0x1"}, {s: "0X1"}, {s: "1_0"}, {s: "1h"},
		{s: "/"}, {s: ":"}, {s: "@"}, {s: "`"}, {s: "1;"}, {s: "1\r"}, {s: "1\x00"}, {s: "\xe1"}, {s: "1\x80"},
	})
}

// Every byte at every place of a number, so that no place goes unread.
func TestEveryPlaceOfANumberIsRead(t *testing.T) {
	for _, x := range []struct {
		name string
		read func(string) (int, bool)
		base int
		most int
	}{{"Number", Number, 10, 9}, {"HexNumber", HexNumber, 16, 6}} {
		weight := 1
		for i := x.most - 1; i >= 0; i-- {
			for c := range 256 {
				b := []byte(strings.Repeat("0", x.most))
				b[i] = byte(c)
				d := strings.IndexByte("0123456789abcdef"[:x.base], Lower(string(b[i : i+1]))[0])
				want := reading{s: string(b)}
				if d >= 0 {
					want.n, want.ok = d*weight, true
				}
				checkReadings(t, x.name, x.read, []reading{want})
			}
			weight *= x.base
		}
	}
}

// answers: all that is told of a text.
type answers struct {
	token, visible, isNumber, isHex bool
	lower, trim                     string
	number, hex                     int
}

func ask(s string) (a answers) {
	a.token, a.visible, a.lower, a.trim = IsToken(s), IsVisible(s), Lower(s), Trim(s)
	a.number, a.isNumber = Number(s)
	a.hex, a.isHex = HexNumber(s)
	return a
}

// P1: a panic or a call without an end fails here, whatever the text.
func TestEveryTextIsAnsweredAlike(t *testing.T) {
	l := samples()
	first := make([]answers, len(l))
	for i, s := range l {
		first[i] = ask(s)
	}
	for i := len(l) - 1; i >= 0; i-- {
		if ask(l[i]) != first[i] {
			t.Errorf("%.20q is answered in two ways", l[i])
		}
	}
}

func TestTextsAgreeWithTheirBytes(t *testing.T) {
	for _, s := range samples() {
		token, visible := s != "", true
		for i := range len(s) {
			token = token && Token(s[i])
			visible = visible && Visible(s[i])
		}
		a := ask(s)
		if a.token != token || a.visible != visible {
			t.Errorf("%.20q: token %v, visible %v, want %v, %v", s, a.token, a.visible, token, visible)
		}
		if len(a.lower) != len(s) || Lower(a.lower) != a.lower || strings.ContainsAny(a.lower, large) {
			t.Errorf("Lower(%.20q): %.20q", s, a.lower)
		}
		if Trim(a.trim) != a.trim || !strings.Contains(s, a.trim) {
			t.Errorf("Trim(%.20q): %.20q", s, a.trim)
		}
		if !a.isNumber && a.number != 0 || !a.isHex && a.hex != 0 {
			t.Errorf("%.20q is no number, and yet %d or %d", s, a.number, a.hex)
		}
	}
}

// What is answered is new memory: a piece of the argument would be none.
func TestAnswersShareNoMemory(t *testing.T) {
	for _, s := range []string{"abc", "ABC", " abc\t", "abc ", " abc"} {
		for name, f := range map[string]func(string) string{"Lower": Lower, "Trim": Trim} {
			got := f(s)
			from, at := uintptr(unsafe.Pointer(unsafe.StringData(s))), uintptr(unsafe.Pointer(unsafe.StringData(got)))
			if at >= from && at < from+uintptr(len(s)) {
				t.Errorf("%s(%q) shares the memory of its argument", name, s)
			}
		}
	}
}
