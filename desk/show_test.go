package desk

import (
	"bytes"
	"fmt"
	"regexp"
	"slices"
	"strings"
	"testing"
)

// plainShow is Show by the chapter's words.
func plainShow(l []byte) string {
	out := ""
	for _, c := range l {
		switch {
		case c == 13:
			out += `\r`
		case c == 10:
			out += `\n`
		case c == '\\':
			out += `\\`
		case c < 32 || c > 126:
			out += fmt.Sprintf(`\x%02x`, c)
		default:
			out += string(rune(c))
		}
	}
	return out
}

var (
	aByte = regexp.MustCompile(`(?s)\\x[0-9a-fA-F]{2}|\\[rn\\]|[^\\]`)
	aText = regexp.MustCompile(`(?s)^(?:\\x[0-9a-fA-F]{2}|\\[rn\\]|[^\\])*$`)
)

// plainMean is Mean by the chapter's words.
func plainMean(s string) ([]byte, bool) {
	if !aText.MatchString(s) {
		return nil, false
	}
	var b []byte
	for _, at := range aByte.FindAllStringIndex(s, -1) {
		switch x := s[at[0]:at[1]]; {
		case x == `\r`:
			b = append(b, 13)
		case x == `\n`:
			b = append(b, 10)
		case x == `\\`:
			b = append(b, '\\')
		case x[0] == '\\':
			var c byte
			fmt.Sscanf(x[2:], "%x", &c)
			b = append(b, c)
		default:
			b = append(b, x...)
		}
	}
	return b, true
}

func shows(t *testing.T, l []byte, want string) {
	t.Helper()
	if got := Show(l); got != want {
		t.Errorf("Show of %s: %s, want %s", quote(string(l)), quote(got), quote(want))
	}
}

// means: a text means these bytes.
func means(t *testing.T, s, want string) {
	t.Helper()
	if got, ok := Mean(s); string(got) != want || !ok {
		t.Errorf("Mean of %s: %s, %v, want %s", quote(s), quote(string(got)), ok, quote(want))
	}
}

// isNone: a text means nothing.
func isNone(t *testing.T, s string) {
	t.Helper()
	if got, ok := Mean(s); len(got) != 0 || ok {
		t.Errorf("Mean of %s: %s, %v, want false", quote(s), quote(string(got)), ok)
	}
}

// back: Mean of Show is the bytes, and all that is shown can be seen.
func back(t *testing.T, l []byte) {
	t.Helper()
	shows(t, l, plainShow(l))
	for _, c := range []byte(Show(l)) {
		if c < 32 || c > 126 {
			t.Errorf("Show of %s has the byte %d", quote(string(l)), c)
		}
	}
	means(t, Show(l), string(l))
}

func TestShow(t *testing.T) {
	shows(t, nil, "")
	shows(t, []byte{}, "")
	for s, want := range map[string]string{
		"\r": `\r`, "\n": `\n`, `\`: `\\`, "\t": `\x09`, "\x00": `\x00`, "\x01": `\x01`, "\x08": `\x08`, "\x0b": `\x0b`, "\x0c": `\x0c`, "\x0e": `\x0e`, "\x1b": `\x1b`, "\x1f": `\x1f`, " ": " ", "!": "!", "~": "~", "\x7f": `\x7f`, "\x80": `\x80`, "\xab": `\xab`, "\xff": `\xff`,
		"x": "x", "n": "n", "r": "r", "\"": "\"", "'": "'", "/": "/", "é": `\xc3\xa9`, "\u2028": `\xe2\x80\xa8`, `\r`: `\\r`, `\n`: `\\n`, `\x41`: `\\x41`, `\\`: `\\\\`, "\r\n": `\r\n`, "a\r\nb": `a\r\nb`, "\xfe\xff": `\xfe\xff`, "a b  c ": "a b  c ",
	} {
		shows(t, []byte(s), want)
	}
}

func TestShowOfEachByte(t *testing.T) {
	for c := range 256 {
		b := byte(c)
		back(t, []byte{b})
		for _, other := range []string{"", "a", "x", "n", "0", "41", `\`, "\r", "\n", "\t", "\x00", "\xff", " "} {
			back(t, []byte(other+string([]byte{b})))
			back(t, []byte(string([]byte{b})+other))
			back(t, []byte(other+string([]byte{b})+other))
		}
	}
	for c := range 256 * 256 {
		l := []byte{byte(c >> 8), byte(c)}
		if got, ok := Mean(Show(l)); !bytes.Equal(got, l) || !ok {
			t.Errorf("Mean of Show of %v: %v, %v", l, got, ok)
		}
	}
}

func TestThereAndBackOfLongBytes(t *testing.T) {
	var each []byte
	for c := range 256 {
		each = append(each, byte(c))
	}
	back(t, each)
	back(t, slices.Repeat(each, 20))
	for _, s := range []string{"a", `\`, "\r\n", "\x00", "\xff", "\\x41", " "} {
		for _, n := range []int{63, 64, 65, 1000, 10000} {
			back(t, bytes.Repeat([]byte(s), n))
		}
	}
	long := bytes.Repeat(each, 1<<12)
	if got, ok := Mean(Show(long)); !bytes.Equal(got, long) || !ok {
		t.Errorf("Mean of Show of %d bytes: %d, %v", len(long), len(got), ok)
	}
}

func TestMean(t *testing.T) {
	for s, want := range map[string]string{
		"": "", "a": "a", " ": " ", `\r`: "\r", `\n`: "\n", `\\`: `\`, `\x00`: "\x00", `\x41`: "A", `\x0d`: "\r", `\x0a`: "\n", `\x5c`: `\`, `\x09`: "\t", `\xff`: "\xff", `\x20`: " ", `\x7e`: "~", `\x78`: "x",
		`\x4a`: "J", `\x4A`: "J", `\xFF`: "\xff", `\xfF`: "\xff", `\xFf`: "\xff", `\xAb`: "\xab", `\xaB`: "\xab", `\xCD`: "\xcd", `\xEF`: "\xef", `\x0A`: "\n", `\x5C`: `\`,
		`\x411`: "A1", `\x4142`: "A42", `\x41\x42`: "AB", `\x41x42`: "Ax42", `\\x41`: `\x41`, `\\\x41`: `\A`, `\\\\`: `\\`, `\\r`: `\r`, `\\\r`: "\\\r", `\rn`: "\rn", `\r\n`: "\r\n", `x41`: "x41", `r`: "r", `\x5cn`: `\n`, `\x5c\x5c`: `\\`,
		// What needs no backslash stands itself.
		"\t": "\t", "\r": "\r", "\n": "\n", "\x00": "\x00", "\x1f": "\x1f", "\x7f": "\x7f", "\x80": "\x80", "\xff": "\xff", "é": "é", "\xc3": "\xc3", "a\xffb": "a\xffb", "\xff\\xfe": "\xff\xfe", "\r\\r\r": "\r\r\r",
	} {
		means(t, s, want)
	}
	for _, s := range []string{
		`\`, `a\`, `\\\`, `\r\`, `\x41\`, `\\\\\`, "\xff\\",
		`\x`, `\x4`, `\xf`, `a\x`, `a\x4`, `\\\x`, `\xg0`, `\x0g`, `\xgg`, `\x 1`, `\x1 `, `\x-1`, `\x+1`, `\x0x`, `\xx41`, `\x4\x41`, `\x\x41`, `\x\\`, `\x4\`, `\x4\\`, `\x_1`, "\\x4\n", "\\x\xff1", "\\x1\xff", `\xé`, `\x４１`,
		`\q`, `\R`, `\N`, `\X41`, `\0`, `\t`, `\a`, `\u0041`, `\"`, `\'`, `\/`, `\ `, `a\qb`, `\r\q`, `\q\r`, "\\\n", "\\\r", "\\\x00", "\\\xff", `\é`,
		"ok" + `\q` + "ok", strings.Repeat("a", 10000) + `\`,
	} {
		isNone(t, s)
	}
}

// A backslash ahead of each byte, at the end of a text and within.
func TestMeanOfABackslashAndEachByte(t *testing.T) {
	for c := range 256 {
		b := string([]byte{byte(c)})
		want, known := map[int]string{'r': "\r", 'n': "\n", '\\': "\\"}[c]
		for _, behind := range []string{"", " ", "zz", "r", "\xff"} {
			if known {
				means(t, `\`+b+behind, want+behind)
				means(t, "a"+`\`+b+behind, "a"+want+behind)
				continue
			}
			isNone(t, `\`+b+behind)
			isNone(t, "a"+`\`+b+behind)
		}
		if b != "x" && !known {
			isNone(t, `\`+b+"41")
		}
	}
	means(t, `\x41`, "A")
}

// Each pair of bytes behind \x: it is a byte, or none.
func TestMeanOfDigits(t *testing.T) {
	value := func(c byte) int { return strings.IndexByte("0123456789abcdef", c|32) }
	for c := range 256 * 256 {
		high, low := byte(c>>8), byte(c)
		s := `\x` + string([]byte{high, low})
		digit := func(c byte) bool {
			return strings.IndexByte("0123456789abcdefABCDEF", c) >= 0
		}
		if digit(high) && digit(low) {
			means(t, s, string([]byte{byte(value(high)*16 + value(low))}))
		} else {
			isNone(t, s)
		}
	}
}

// Each byte that stands itself, but a backslash.
func TestMeanOfEachByte(t *testing.T) {
	for c := range 256 {
		b := string([]byte{byte(c)})
		if b == `\` {
			isNone(t, b)
			continue
		}
		means(t, b, b)
		means(t, b+b, b+b)
		means(t, `\r`+b+`\\`, "\r"+b+`\`)
		means(t, fmt.Sprintf(`\x%02x`, c), b)
		means(t, fmt.Sprintf(`\x%02X`, c), b)
	}
}

// All short texts of a few bytes, against the chapter's words.
func TestMeanOfAllShortTexts(t *testing.T) {
	const some = "\\xrn09aFgX\xff\n"
	texts := []string{""}
	for from := 0; len(texts[from]) < 5; from++ {
		for i := range len(some) {
			texts = append(texts, texts[from]+some[i:i+1])
		}
	}
	for _, s := range texts {
		want, is := plainMean(s)
		if got, ok := Mean(s); !bytes.Equal(got, want) || ok != is {
			t.Fatalf("Mean of %q: %q, %v, want %q, %v", s, got, ok, want, is)
		}
	}
}

// What is answered is memory of its own, and what is handed in stays.
func TestMemoryOfShowAndMean(t *testing.T) {
	all := []byte("ab\\\xff\r\n behind")
	l := all[:6]
	shown := Show(l)
	if string(all) != "ab\\\xff\r\n behind" {
		t.Errorf("what was shown became %q", all)
	}
	for i := range all {
		all[i] = 'z'
	}
	if shown != `ab\\\xff\r\n` {
		t.Errorf("what was told became %q", shown)
	}
	for _, s := range []string{"abc", shown, ""} {
		a, _ := Mean(s)
		b, _ := Mean(s)
		was := string(b)
		for i := range a {
			a[i]++
		}
		_ = append(a, "zzz"...)
		c, _ := Mean(s)
		if string(b) != was || string(c) != was {
			t.Errorf("Mean of %q: %q and %q, want %q", s, b, c, was)
		}
	}
}
