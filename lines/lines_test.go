package lines

import (
	"fmt"
	"slices"
	"strings"
	"testing"

	"lighterage/api"
)

// answer: what Feed told of one byte, and Begun behind it.
type answer struct {
	line  string
	ended bool
	code  int
	begun bool
}

func feed(l *Lines, c byte) answer {
	line, ended, code := l.Feed(c)
	return answer{line, ended, code, l.Begun()}
}

// after: a new reader to which in came.
func after(in string) *Lines {
	l := New()
	for i := range len(in) {
		l.Feed(in[i])
	}
	return l
}

// told: what Feed told of each byte: a point for nothing, a line in brackets,
// or a code's number.
func told(l *Lines, in string) string {
	var b strings.Builder
	for i := range len(in) {
		switch line, ended, code := l.Feed(in[i]); {
		case ended && code == 0:
			b.WriteString("[" + line + "]")
		case line != "" || ended:
			fmt.Fprintf(&b, "(%q %v %d)", line, ended, code)
		case code != 0:
			fmt.Fprint(&b, code)
		default:
			b.WriteString(".")
		}
	}
	return b.String()
}

func check(t *testing.T, in, want string, begun bool) {
	t.Helper()
	l := New()
	if got := told(l, in); got != want {
		t.Errorf("fed %q: %s, want %s", in, got, want)
	}
	if got := l.Begun(); got != begun {
		t.Errorf("Begun behind %q: %v, want %v", in, got, begun)
	}
}

// full: a line as long as may be.
var full = strings.Repeat("0123456789", api.MaxLine/10)

var points = strings.Repeat(".", api.MaxLine)

func TestOrdinaryLines(t *testing.T) {
	check(t, "", "", false)
	check(t, "a", ".", true)
	check(t, "a\r\n", "..[a]", false)
	check(t, "GET / HTTP/1.1\r\n", strings.Repeat(".", 15)+"[GET / HTTP/1.1]", false)
	check(t, " a\tb ~ \r\n", "........[ a\tb ~ ]", false)
	check(t, "\xc3\xa9\x80\xff\r\n", ".....[\xc3\xa9\x80\xff]", false)
}

func TestEmptyLine(t *testing.T) {
	check(t, "\r\n", ".[]", false)
	check(t, "\r\n\r\n\r\n", ".[].[].[]", false)
	check(t, "a\r\n\r\n", "..[a].[]", false)
}

func TestLinesOneBehindTheOther(t *testing.T) {
	check(t, "a b\r\n\r\nc", "...."+"[a b]"+".[]"+".", true)
	check(t, "ab\r\nc\r\ndef\r\n", "...[ab]..[c]....[def]", false)
	check(t, "longer\r\nx\r\n", ".......[longer]..[x]", false)
}

func TestLFWithoutACR(t *testing.T) {
	check(t, "\n", "2", false)
	check(t, "a\n", ".2", true)
	check(t, "a\nb", ".22", true)
	check(t, "\r\n\n", ".[]2", false)
	check(t, "a\r\n\n\r\n", "..[a]222", false)
	check(t, "ab\r\ncd\n", "...[ab]..2", true)
	check(t, full+"\n", points+"2", true)
}

func TestCRBehindWhichNoLFComes(t *testing.T) {
	check(t, "\rx", ".2", true)
	check(t, "a\rx", "..2", true)
	check(t, "a\rx\r\n", "..222", true)
	check(t, "\r\r", ".2", true)
	check(t, "\r\r\n", ".22", true)
	check(t, "a\r\r\n", "..22", true)
	check(t, "a\r\nb\r c", "..[a]..22", true)
	check(t, full+"\rx", points+".2", true)
	check(t, full+"\r\r", points+".2", true)
}

func TestByteThatIsNotVisible(t *testing.T) {
	check(t, "\x00", "3", false)
	check(t, "a\x1f", ".3", true)
	check(t, "ab\x7fc\r\n", "..3333", true)
	check(t, "\r\n\x0b", ".[]3", false)
	check(t, "a\r\nb\x01\r\n", "..[a].333", true)
	check(t, full[1:]+"\x01", points[1:]+"3", true)
}

func TestLongLine(t *testing.T) {
	check(t, full, points, true)
	check(t, full+"\r", points+".", true)
	check(t, full+"\r\n", points+".["+full+"]", false)
	check(t, full+"x", points+"4", true)
	check(t, full+" ", points+"4", true)
	check(t, full+"x\r\n", points+"444", true)
	check(t, full[1:]+"x\r\n", points+".["+full[1:]+"x]", false)
	check(t, full+"\r\n"+full+"\r\n", points+".["+full+"]"+points+".["+full+"]", false)
	check(t, "ab\r\n"+full+"x", "...[ab]"+points+"4", true)
}

// Where two codes could be told, it is the one that the chapter names first.
func TestTwoCodes(t *testing.T) {
	check(t, "\r\x01", ".2", true)
	check(t, "a\r\x7f", "..2", true)
	check(t, full+"\x01", points+"3", true)
	check(t, full+"\n", points+"2", true)
	check(t, full+"\r\x01", points+".2", true)
}

// visible: the document's words, apart from what the program asks.
func visible(c byte) bool { return c == 9 || c >= 32 && c <= 126 || c >= 128 }

func TestEachByteInsideALine(t *testing.T) {
	for _, ahead := range []string{"", "a", "\r\n", "ab\r\nc", full[1:]} {
		came := ahead[strings.LastIndexByte(ahead, lf)+1:]
		for n := range 256 {
			c := byte(n)
			want := answer{begun: true}
			switch {
			case c == lf:
				want = answer{code: api.ErrLine, begun: came != ""}
			case c != cr && !visible(c):
				want = answer{code: api.ErrChar, begun: came != ""}
			}
			if got := feed(after(ahead), c); got != want {
				t.Errorf("%d behind %q: %v, want %v", c, ahead, got, want)
			}
		}
	}
}

func TestEachByteBehindACR(t *testing.T) {
	for _, line := range []string{"", "a", full} {
		for n := range 256 {
			c := byte(n)
			want := answer{code: api.ErrLine, begun: true}
			if c == lf {
				want = answer{line: line, ended: true}
			}
			if got := feed(after(line+"\r"), c); got != want {
				t.Errorf("%d behind a CR and %q: %v, want %v", c, line, got, want)
			}
		}
	}
}

func TestEachByteBehindAFullLine(t *testing.T) {
	for n := range 256 {
		c := byte(n)
		want := answer{code: api.ErrLong, begun: true}
		switch {
		case c == cr:
			want.code = 0
		case c == lf:
			want.code = api.ErrLine
		case !visible(c):
			want.code = api.ErrChar
		}
		if got := feed(after(full), c); got != want {
			t.Errorf("%d behind a full line: %v, want %v", c, got, want)
		}
	}
}

// Whatever comes behind a code, it is told again, and nothing is taken in.
func TestCodesAreToldAgain(t *testing.T) {
	for _, in := range []struct {
		text  string
		code  int
		begun bool
	}{
		{"\n", api.ErrLine, false},
		{"a\n", api.ErrLine, true},
		{"\rx", api.ErrLine, true},
		{"\r\r", api.ErrLine, true},
		{"a\r\n\r\r", api.ErrLine, true},
		{"\x01", api.ErrChar, false},
		{"a\x01", api.ErrChar, true},
		{"a\r\n\x01", api.ErrChar, false},
		{full + "x", api.ErrLong, true},
		{"\r\n" + full + "x", api.ErrLong, true},
	} {
		want := answer{code: in.code, begun: in.begun}
		l := after(in.text)
		for _, c := range []byte("\r\n\r\nab\r\n\x01\n\r\r" + full + "x") {
			if got := feed(l, c); got != want {
				t.Errorf("%q, and %d later on: %v, want %v", in.text, c, got, want)
			}
		}
		for n := range 256 {
			if got := feed(after(in.text), byte(n)); got != want {
				t.Errorf("%q, and %d: %v, want %v", in.text, n, got, want)
			}
			if got := feed(l, byte(n)); got != want {
				t.Errorf("%q, and %d later on: %v, want %v", in.text, n, got, want)
			}
		}
	}
}

func TestBegun(t *testing.T) {
	l := New()
	if l.Begun() {
		t.Error("Begun ahead of the first byte")
	}
	in := "a\r\n\r\nb c\r\n"
	want := []bool{true, true, false, true, false, true, true, true, true, false}
	for i := range len(in) {
		l.Feed(in[i])
		if got := l.Begun(); got != want[i] {
			t.Errorf("Begun behind %q: %v, want %v", in[:i+1], got, want[i])
		}
	}
}

func TestBegunChangesNothing(t *testing.T) {
	l := New()
	got := ""
	for _, c := range []byte("ab\r\n\r\nc\rd\n") {
		for range 3 {
			l.Begun()
		}
		got += told(l, string([]byte{c}))
	}
	if want := "...[ab].[]..22"; got != want {
		t.Errorf("with Begun asked in between: %s, want %s", got, want)
	}
}

// plain reads all that came anew, from the front, and answers what its last
// byte brought.
func plain(in string) (a answer) {
	for rest := in; rest != ""; {
		n := 0
		for n < len(rest) && n < api.MaxLine && visible(rest[n]) {
			n++
		}
		line, end := rest[:n], rest[n:]
		switch {
		case end == "", end == "\r":
			return answer{begun: true}
		case end == "\r\n":
			return answer{line: line, ended: true}
		case strings.HasPrefix(end, "\r\n"):
			rest = end[2:]
		case end[0] == '\r':
			return answer{code: api.ErrLine, begun: true}
		case end[0] == '\n':
			return answer{code: api.ErrLine, begun: line != ""}
		case !visible(end[0]):
			return answer{code: api.ErrChar, begun: line != ""}
		default:
			return answer{code: api.ErrLong, begun: true}
		}
	}
	return a
}

// texts: all of at most most of the bytes.
func texts(bytes string, most int) []string {
	l := []string{""}
	for from, n := 0, 0; n < most; n++ {
		to := len(l)
		for _, s := range slices.Clone(l[from:to]) {
			for i := range len(bytes) {
				l = append(l, s+bytes[i:i+1])
			}
		}
		from = to
	}
	return l
}

func compare(t *testing.T, in string) {
	t.Helper()
	last := len(in) - 1
	if got, want := feed(after(in[:last]), in[last]), plain(in); got != want {
		t.Errorf("the last byte of %q: %v, want %v", in, got, want)
	}
}

func TestAllShortTexts(t *testing.T) {
	for _, in := range texts("a\t\r\n\x01", 6)[1:] {
		compare(t, in)
	}
	for _, in := range texts("a\r\n\x01", 5)[1:] {
		for _, n := range []int{3, 2, 1, 0} {
			compare(t, full[n:]+in)
			compare(t, "\r\n"+full[n:]+in)
		}
	}
}

// A line that was answered is not changed by what comes behind it.
func TestAnswersStayAsTheyWere(t *testing.T) {
	l := after("abc\r")
	first, _, _ := l.Feed(lf)
	told(l, "xyz\r")
	second, _, _ := l.Feed(lf)
	told(l, "####\n")
	if first != "abc" || second != "xyz" {
		t.Errorf("what was answered was changed: %q, %q", first, second)
	}
}

func TestTwoReadersAreApart(t *testing.T) {
	one, two := New(), New()
	told(one, "ab\r")
	told(two, "c\x01")
	if got := told(one, "\nd"); got != "[ab]." {
		t.Errorf("the first: %s", got)
	}
	if got := told(two, "\n"); got != "3" {
		t.Errorf("the second: %s", got)
	}
	if New().Begun() || !one.Begun() {
		t.Error("readers share what came")
	}
}

// P1: were what came kept or read anew with each byte, this would not end in
// time.
func TestLongStream(t *testing.T) {
	const n = 1 << 22
	l := New()
	for i := range n {
		want := 0
		if i >= api.MaxLine {
			want = api.ErrLong
		}
		if line, ended, code := l.Feed('x'); line != "" || ended || code != want {
			t.Fatalf("byte %d: %q, %v, %d, want %d", i, line, ended, code, want)
		}
	}
	l = New()
	for range n {
		l.Feed(cr)
		if line, ended, code := l.Feed(lf); line != "" || !ended || code != 0 || l.Begun() {
			t.Fatalf("an empty line: %q, %v, %d", line, ended, code)
		}
	}
}
