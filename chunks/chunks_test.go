package chunks

import (
	"bytes"
	"fmt"
	"slices"
	"strings"
	"testing"

	"lighterage/api"
	"lighterage/fields"
	"lighterage/lines"
)

// result: what was told until the body was over or a code came; at: how many
// bytes it took (of a body that is neither: all of them).
type result struct {
	body string
	at   int
	over bool
	code int
}

// feed holds one answer against what holds of each: a byte that is answered is
// the one that came, and with a code, or by the body's end, there is none.
func feed(t *testing.T, c *Chunks, b byte) (string, bool, int) {
	got, over, code := c.Feed(b)
	switch {
	case len(got) > 1, len(got) == 1 && got[0] != b,
		len(got) > 0 && (over || code != 0), over && code != 0:
		t.Helper()
		t.Errorf("fed %q: %q, %v, %d", b, got, over, code)
	}
	return string(got), over, code
}

func feedAll(t *testing.T, c *Chunks, in string) (r result) {
	t.Helper()
	var body strings.Builder
	for r.at < len(in) && !r.over && r.code == 0 {
		var got string
		got, r.over, r.code = feed(t, c, in[r.at])
		body.WriteString(got)
		r.at++
	}
	r.body = body.String()
	return r
}

// after: a new reader to which in came.
func after(in string) *Chunks {
	c := New()
	for i := range len(in) {
		c.Feed(in[i])
	}
	return c
}

// short: a text as it may stand in what a test tells.
func short(s string) string {
	if len(s) > 80 {
		return fmt.Sprintf("%q .. %q", s[:40], s[len(s)-40:])
	}
	return fmt.Sprintf("%q", s)
}

func check(t *testing.T, in string, want result) {
	t.Helper()
	if got := feedAll(t, New(), in); got != want {
		t.Errorf("fed %s: %s, %d, %v, %d, want %s, %d, %v, %d", short(in), short(got.body), got.at, got.over, got.code,
			short(want.body), want.at, want.over, want.code)
	}
}

// open: neither is the body over by in, nor is a code told.
func open(t *testing.T, in, body string) {
	t.Helper()
	check(t, in, result{body, len(in), false, 0})
}

// ends: the body is over by the last byte of in, and none ahead of it.
func ends(t *testing.T, in, body string) {
	t.Helper()
	check(t, in, result{body, len(in), true, 0})
	again(t, in, api.ErrDone)
}

// fails: the last byte of in brings the code, and none ahead of it.
func fails(t *testing.T, in, body string, code int) {
	t.Helper()
	check(t, in, result{body, len(in), false, code})
	again(t, in, code)
}

// again: behind in the code is told for every byte, first and later on.
func again(t *testing.T, in string, code int) {
	t.Helper()
	late := after(in)
	for _, ahead := range []byte("\r\n0\r\n\r\n1\r\na\r\n") {
		tellsCode(t, late, ahead, code)
	}
	for n := range 256 {
		tellsCode(t, late, byte(n), code)
	}
	for _, b := range []byte("\r\n\n0;a:\x00\x7f\xff") {
		tellsCode(t, after(in), b, code)
	}
}

func tellsCode(t *testing.T, c *Chunks, b byte, code int) {
	t.Helper()
	if got, over, e := c.Feed(b); len(got) > 0 || over || e != code {
		t.Errorf("%q behind the end: %q, %v, %d, want %d", b, got, over, e, code)
	}
}

const last = "0\r\n\r\n"

// many: n bytes of all kinds, CR, LF and NUL among them.
func many(n int) string {
	b := make([]byte, n)
	for i := range b {
		b[i] = byte(i*7 + i/256)
	}
	return string(b)
}

// chunk: s as a chunk, its size written by other means than the program's.
func chunk(s string) string { return fmt.Sprintf("%x\r\n%s\r\n", len(s), s) }

func TestNoChunk(t *testing.T) {
	ends(t, last, "")
	ends(t, "0;x\r\n\r\n", "")
	ends(t, " 0 \r\n\r\n", "")
	ends(t, "000000\r\n\r\n", "")
	open(t, "", "")
	open(t, "0", "")
	open(t, "0\r\n", "")
	open(t, "0\r\n\r", "")
}

func TestChunks(t *testing.T) {
	ends(t, "1\r\na\r\n"+last, "a")
	ends(t, "3\r\nabc\r\n"+last, "abc")
	ends(t, "2\r\nab\r\n1\r\nc\r\n"+last, "abc")
	ends(t, "1\r\na\r\n1\r\nb\r\n1\r\nc\r\n"+last, "abc")
	ends(t, "2;x=y\r\nab\r\n01\r\nc\r\n0\r\nA: b\r\n\r\n", "abc")
	for _, n := range []int{9, 10, 15, 16, 17, 255, 256, 257, 1000} {
		ends(t, chunk(many(n))+last, many(n))
		ends(t, chunk(many(n))+chunk("x")+chunk(many(n))+last, many(n)+"x"+many(n))
	}
}

// A body's bytes are answered at once, not when a chunk is whole.
func TestOpenChunks(t *testing.T) {
	open(t, "3\r\n", "")
	open(t, "3\r\na", "a")
	open(t, "3\r\nab", "ab")
	open(t, "3\r\nabc", "abc")
	open(t, "3\r\nabc\r", "abc")
	open(t, "3\r\nabc\r\n", "abc")
	open(t, "3\r\nabc\r\n0", "abc")
	open(t, "3\r\nabc\r\n0\r\n", "abc")
	open(t, "3\r\nabc\r\n0\r\n\r", "abc")
}

func TestSizes(t *testing.T) {
	for _, size := range []string{
		"a", "A", "0a", "0A", "00000a", "00000A", " a", "a ", "\ta", "a\t", " \t a\t \t", "a;", "a;;", "a;b", "a;b=c;d", "a ; b",
		"\ta\t;\t", "a; \"b", "a;b;11", "a;11", "a;\xff", " 00000A\t;0", "a;" + strings.Repeat("x", api.MaxLine-2),
		"a" + strings.Repeat(" ", api.MaxLine-1), strings.Repeat("\t", api.MaxLine-1) + "a",
	} {
		ends(t, size+"\r\n0123456789\r\n"+last, "0123456789")
	}
	for _, size := range []string{"ff", "FF", "fF", "Ff", "0000fF"} {
		ends(t, size+"\r\n"+many(255)+"\r\n"+last, many(255))
	}
	for _, size := range []string{"00", "000000", "0;", "0;1", "00 ;1", "\t0", "0\t", " 000000 ; x"} {
		ends(t, "1\r\na\r\n"+size+"\r\n\r\n", "a")
		ends(t, size+"\r\na:b\r\n\r\n", "")
	}
}

func TestSizeThatIsNone(t *testing.T) {
	for _, size := range []string{
		"", " ", "\t", " \t ", ";", ";1", " ;1", ";;", "g", "x", "-", "-1", "+1", "-0", "1x", "x1", "0x1", "1h", "1 1", "1\t1", "0 0",
		"1,", "1:", "1.0", "1_0", "\"1\"", "1\xff", "\xff", "\xc2\xa01", "0000001", "0000000", "1000000", "fffffff",
		"00000000;x", strings.Repeat("0", api.MaxLine), strings.Repeat("f", api.MaxLine), "x;1", "1 x;1", "a:b",
	} {
		fails(t, size+"\r\n", "", api.ErrNumber)
		fails(t, "2\r\nab\r\n"+size+"\r\n", "ab", api.ErrNumber)
		fails(t, chunk(many(api.MaxBody))+size+"\r\n", many(api.MaxBody), api.ErrNumber)
	}
}

func TestLongBodyInOneChunk(t *testing.T) {
	whole := many(api.MaxBody)
	ends(t, chunk(whole)+last, whole)
	ends(t, "fa0\r\n"+whole+"\r\n"+last, whole)
	ends(t, "000FA0\r\n"+whole+"\r\n"+last, whole)
	ends(t, chunk(whole[1:])+last, whole[1:])
	for _, size := range []string{"fa1", "fa2", "fff", "1000", "ffff", "10000", "ffffff", "FFFFFF", "000fa1", " fa1 ;x"} {
		fails(t, size+"\r\n", "", api.ErrLong)
	}
}

func TestLongBodyInSeveralChunks(t *testing.T) {
	whole := many(api.MaxBody)
	for _, n := range []int{1, 2, 255, api.MaxBody / 2, api.MaxBody - 1} {
		ahead, behind := whole[:n], whole[n:]
		ends(t, chunk(ahead)+chunk(behind)+last, whole)
		fails(t, chunk(ahead)+fmt.Sprintf("%x\r\n", len(behind)+1), ahead, api.ErrLong)
		fails(t, chunk(ahead)+chunk(behind)+"1\r\n", whole, api.ErrLong)
		fails(t, chunk(ahead)+"ffffff\r\n", ahead, api.ErrLong)
	}
	fails(t, chunk(whole)+"1\r\n", whole, api.ErrLong)
	fails(t, chunk(whole)+"1;x\r\n", whole, api.ErrLong)
	fails(t, chunk(whole)+"fa0\r\n", whole, api.ErrLong)
	ones := ""
	for i := range len(whole) {
		ones += chunk(whole[i : i+1])
	}
	ends(t, ones+last, whole)
	fails(t, ones+"1\r\n", whole, api.ErrLong)
}

// Within a chunk every byte is one of the body, whatever it would be in a line.
func TestBytesOfChunks(t *testing.T) {
	for _, body := range []string{
		"\r", "\n", "\x00", "\r\n", "\n\r", "\r\n\r\n", "\r\r", "\n\n", "\x7f\x01", "0\r\n\r\n", "\r\n0\r\n\r\n", "5\r\n", "1\r\na\r\n",
		"a: b\r\n", ";", " \t ", "\xff\x80", "\r\n0\r\n", strings.Repeat("x", api.MaxLine+1), strings.Repeat("\r\n", 300),
	} {
		ends(t, chunk(body)+last, body)
		ends(t, chunk("a")+chunk(body)+chunk(body)+last, "a"+body+body)
	}
	for n := range 256 {
		b := string([]byte{byte(n)})
		ends(t, chunk(b)+last, b)
		ends(t, chunk("a"+b+"c")+chunk(b+b)+last, "a"+b+"c"+b+b)
	}
}

func TestNoEmptyLineBehindAChunk(t *testing.T) {
	open(t, "1\r\nab", "a")
	open(t, "1\r\nab\r", "a")
	fails(t, "1\r\nab\r\n", "a", api.ErrForm)
	fails(t, "1\r\na \r\n", "a", api.ErrForm)
	fails(t, "1\r\na\t\r\n", "a", api.ErrForm)
	fails(t, "1\r\na0\r\n", "a", api.ErrForm)
	fails(t, "1\r\na1\r\n", "a", api.ErrForm)
	fails(t, "1\r\na;\r\n", "a", api.ErrForm)
	fails(t, "1\r\naa:b\r\n", "a", api.ErrForm)
	fails(t, "2\r\nab\r\n1\r\ncx\r\n", "abc", api.ErrForm)
	fails(t, "1\r\na"+strings.Repeat("x", api.MaxLine)+"\r\n", "a", api.ErrForm)
	// One byte too few or too many told by the size.
	fails(t, "2\r\nabc\r\n", "ab", api.ErrForm)
	fails(t, "4\r\nabc\r\n", "abc\r", api.ErrLine)
	fails(t, "5\r\nabc\r\n0\r\n", "abc\r\n", api.ErrForm)
	ends(t, "5\r\nabc\r\n\r\n"+last, "abc\r\n")
}

// A chunk of the size 0 has no bytes and no empty line: it is the last one.
func TestNothingComesBehindTheLastChunkButFields(t *testing.T) {
	fails(t, "0\r\n1\r\n", "", api.ErrForm)
	fails(t, "1\r\na\r\n0\r\n0\r\n", "a", api.ErrForm)
	fails(t, "0\r\na:b\r\n1\r\n", "", api.ErrForm)
}

// trailer: n fields, one a line.
func trailer(n int) string {
	s := ""
	for i := range n {
		s += fmt.Sprintf("Name-%d: value %d\r\n", i, i)
	}
	return s
}

func TestFieldsBehindTheLastChunk(t *testing.T) {
	for _, ahead := range []string{"0\r\n", "2\r\nab\r\n0\r\n", "0;x\r\n"} {
		body := ""
		if ahead[0] == '2' {
			body = "ab"
		}
		for n := range api.MaxFields + 1 {
			open(t, ahead+trailer(n), body)
			ends(t, ahead+trailer(n)+"\r\n", body)
		}
		fails(t, ahead+trailer(api.MaxFields+1), body, api.ErrMany)
		open(t, ahead+trailer(api.MaxFields)+"a: b", body)
		open(t, ahead+trailer(api.MaxFields)+"a: b\r", body)
		same := strings.Repeat("a:\r\n", api.MaxFields)
		ends(t, ahead+same+"\r\n", body)
		fails(t, ahead+same+"a:\r\n", body, api.ErrMany)
		for _, line := range []string{"a:", "a:b", "A: b", "a: \t", "a::", "a: b: c", strings.Repeat("n", api.MaxName) + ":", "0:", "a:\xff"} {
			ends(t, ahead+line+"\r\n\r\n", body)
			ends(t, ahead+line+"\r\n"+line+"\r\n\r\n", body)
		}
		long := "a:" + strings.Repeat("v", api.MaxLine-2)
		ends(t, ahead+long+"\r\n"+long+"\r\n\r\n", body)
	}
}

func TestLineThatIsNoField(t *testing.T) {
	for line, code := range map[string]int{
		"x": api.ErrForm, " ": api.ErrForm, "\t": api.ErrForm, "0": api.ErrForm, "a b": api.ErrForm, ";": api.ErrForm,
		":": api.ErrName, ":b": api.ErrName, "a :b": api.ErrName, " a:b": api.ErrName, "a;b:c": api.ErrName, "\xff:b": api.ErrName,
		strings.Repeat("n", api.MaxName+1) + ":": api.ErrLong,
	} {
		for n := range api.MaxFields {
			fails(t, "0\r\n"+trailer(n)+line+"\r\n", "", code)
			fails(t, "1\r\na\r\n0\r\n"+trailer(n)+line+"\r\n", "a", code)
		}
		// The chapter names ErrMany ahead of what fields.Parse tells.
		fails(t, "0\r\n"+trailer(api.MaxFields)+line+"\r\n", "", api.ErrMany)
	}
}

// places: what came ahead of each kind of line, and the body so far.
var places = []struct{ ahead, body string }{
	{"", ""},
	{"2\r\nab\r\n", "ab"},
	{"1\r\na\r\n1\r\nb\r\n", "ab"},
	{"2\r\nab", "ab"},
	{"1\r\na\r\n2\r\n\r\n", "a\r\n"},
	{"0\r\n", ""},
	{"2\r\nab\r\n0\r\n", "ab"},
	{"0\r\na:b\r\n", ""},
	{"0\r\n" + trailer(api.MaxFields), ""},
}

func TestCodesOfLinesAtEachPlace(t *testing.T) {
	full := strings.Repeat("1", api.MaxLine)
	for _, p := range places {
		open(t, p.ahead+full+"\r", p.body)
		fails(t, p.ahead+full+"1", p.body, api.ErrLong)
		fails(t, p.ahead+"\n", p.body, api.ErrLine)
		fails(t, p.ahead+"0\n", p.body, api.ErrLine)
		fails(t, p.ahead+"\r\r", p.body, api.ErrLine)
		fails(t, p.ahead+"\r0", p.body, api.ErrLine)
		fails(t, p.ahead+"a:b\r0", p.body, api.ErrLine)
		fails(t, p.ahead+full+"\n", p.body, api.ErrLine)
		for n := range 256 {
			b := byte(n)
			line := lines.New()
			line.Feed('0')
			_, _, code := line.Feed(b)
			for _, in := range []string{p.ahead + "0" + string([]byte{b}), p.ahead + "0;" + string([]byte{b})} {
				check(t, in, result{p.body, len(in), false, code})
			}
		}
		for _, b := range "\x00\x01\x08\x0b\x1f\x7f" {
			fails(t, p.ahead+string(b), p.body, api.ErrChar)
			fails(t, p.ahead+"0"+string(b), p.body, api.ErrChar)
		}
	}
}

func TestByteBehindTheEnd(t *testing.T) {
	for _, in := range []string{last, "1\r\na\r\n" + last, "0\r\na:b\r\n\r\n", "0\r\n" + trailer(api.MaxFields) + "\r\n", chunk(many(api.MaxBody)) + last} {
		for n := range 256 {
			c := after(in)
			for range 3 {
				tellsCode(t, c, byte(n), api.ErrDone)
			}
		}
		c := after(in)
		for _, b := range []byte(in + in) {
			tellsCode(t, c, b, api.ErrDone)
		}
	}
}

func TestByteBehindEachCode(t *testing.T) {
	for in, code := range map[string]int{
		"\n": api.ErrLine, "1\r\r": api.ErrLine, "1\r\na\n": api.ErrLine, "0\r\n\n": api.ErrLine,
		"\x00": api.ErrChar, "1\r\na\x00": api.ErrChar, "0\r\n\x7f": api.ErrChar,
		strings.Repeat("1", api.MaxLine+1): api.ErrLong, "\r\n": api.ErrNumber, "x\r\n": api.ErrNumber,
		"fa1\r\n": api.ErrLong, chunk(many(api.MaxBody)) + "1\r\n": api.ErrLong, "1\r\nab\r\n": api.ErrForm,
		"0\r\n" + trailer(api.MaxFields+1): api.ErrMany, "0\r\nx\r\n": api.ErrForm, "0\r\n:\r\n": api.ErrName,
		"0\r\n" + strings.Repeat("n", api.MaxName+1) + ":\r\n": api.ErrLong,
	} {
		for n := range 256 {
			c := after(in)
			for range 3 {
				tellsCode(t, c, byte(n), code)
			}
		}
		again(t, in, code)
	}
}

// plain reads all that came from the front, as the chapter tells it.
func plain(in string) result {
	at, body := 0, ""
	told := 0
	// Answers false when nothing more can be read: told is the code then.
	line := func() (string, bool) {
		l := lines.New()
		for at < len(in) {
			s, ended, code := l.Feed(in[at])
			at++
			if told = code; ended || code != 0 {
				return s, ended
			}
		}
		return "", false
	}
	fail := func(code int) result { return result{body, at, false, code} }
	for {
		s, ok := line()
		if !ok {
			return fail(told)
		}
		size := strings.Trim(strings.SplitN(s, ";", 2)[0], " \t")
		n := 0
		if _, err := fmt.Sscanf(size, "%x", &n); err != nil || len(size) > 6 || strings.Trim(size, "0123456789abcdefABCDEF") != "" {
			return fail(api.ErrNumber)
		}
		if n == 0 {
			break
		}
		if len(body)+n > api.MaxBody {
			return fail(api.ErrLong)
		}
		piece := in[at:min(at+n, len(in))]
		body, at = body+piece, at+len(piece)
		if s, ok = line(); !ok || s != "" {
			if ok {
				told = api.ErrForm
			}
			return fail(told)
		}
	}
	for n := 0; ; n++ {
		s, ok := line()
		switch {
		case ok && s == "":
			return result{body, at, true, 0}
		case ok && n == api.MaxFields:
			told = api.ErrMany
		case ok:
			_, told = fields.Parse(s)
		}
		if !ok || told != 0 {
			return fail(told)
		}
	}
}

// texts: all of at most most of the pieces, one behind the other.
func texts(pieces []string, most int) []string {
	l := []string{""}
	for from, n := 0, 0; n < most; n++ {
		to := len(l)
		for _, s := range slices.Clone(l[from:to]) {
			for _, p := range pieces {
				l = append(l, s+p)
			}
		}
		from = to
	}
	return l
}

func TestAllShortTexts(t *testing.T) {
	ahead := []string{"", "0\r\n" + trailer(api.MaxFields-1), chunk(many(api.MaxBody - 2))}
	for i, most := range []int{6, 4, 3} {
		for _, in := range texts([]string{"0", "1", "a:", ";", " ", "\r\n", "\n", "\x00"}, most) {
			check(t, ahead[i]+in, plain(ahead[i]+in))
		}
		for _, in := range texts([]string{"0\r\n", "1\r\n", "2;\r\n", "\r\n", "a:b\r\n", "b", "c\r\n"}, most) {
			check(t, ahead[i]+in, plain(ahead[i]+in))
		}
	}
}

func TestTwoReadersAreApart(t *testing.T) {
	one, two := New(), New()
	ins := []string{"2\r\nab\r\n3\r\nc\r\n\r\n0\r\na:b\r\n\r\n", "3;x\r\nxyz\r\nA\r\n0123456789\r\n0\r\n"}
	var got [2]string
	for i := range max(len(ins[0]), len(ins[1])) {
		for j, c := range []*Chunks{one, two} {
			if i < len(ins[j]) {
				s, over, code := feed(t, c, ins[j][i])
				if got[j] += s; code != 0 || over != (j == 0 && i == len(ins[0])-1) {
					t.Errorf("reader %d, byte %d: %v, %d", j, i, over, code)
				}
			}
		}
	}
	if got != [2]string{"abc\r\n", "xyz0123456789"} {
		t.Errorf("two readers by turns: %q", got)
	}
	tellsCode(t, one, '0', api.ErrDone)
	if r := feedAll(t, two, "\r\n"); r != (result{"", 2, true, 0}) {
		t.Errorf("the second reader behind the first one's end: %v", r)
	}
	check(t, "1\r\na", result{"a", 4, false, 0})
}

// Many fields and a full body of one reader leave another one its own.
func TestReadersBeginAnew(t *testing.T) {
	full := chunk(many(api.MaxBody)) + "0\r\n" + trailer(api.MaxFields) + "\r\n"
	for range 3 {
		ends(t, full, many(api.MaxBody))
		fails(t, "\n", "", api.ErrLine)
	}
}

// What was answered is the caller's: neither does a later byte change it, nor
// does it change what is read.
func TestAnswersStayAsTheyWere(t *testing.T) {
	c := after("3\r\n")
	first, _, _ := c.Feed('a')
	second, _, _ := c.Feed('b')
	first[0] = 'x'
	first = append(first, "yz"...)
	third, _, _ := c.Feed('c')
	if string(first) != "xyz" || string(second) != "b" || string(third) != "c" {
		t.Errorf("answers share their memory: %q, %q, %q", first, second, third)
	}
	if r := feedAll(t, c, "\r\n"+last); r != (result{"", 7, true, 0}) {
		t.Errorf("behind answers that were changed: %v", r)
	}
}

func lists(l ...string) (out [][]byte) {
	for _, s := range l {
		out = append(out, []byte(s))
	}
	return out
}

func checkWrite(t *testing.T, l [][]byte, want string) {
	t.Helper()
	if got := string(Write(l)); got != want {
		t.Errorf("Write: %s, want %s", short(got), short(want))
	}
}

func TestWrite(t *testing.T) {
	checkWrite(t, lists("ab"), "2\r\nab\r\n0\r\n\r\n")
	checkWrite(t, lists("ab", "c"), "2\r\nab\r\n1\r\nc\r\n0\r\n\r\n")
	checkWrite(t, lists("\r\n", "0\r\n\r\n", "\x00"), "2\r\n\r\n\r\n5\r\n0\r\n\r\n\r\n1\r\n\x00\r\n0\r\n\r\n")
	for size, n := range map[string]int{
		"1": 1, "9": 9, "a": 10, "f": 15, "10": 16, "11": 17, "ff": 255, "100": 256, "fa0": api.MaxBody, "fa1": api.MaxBody + 1,
		"ffff": 65535, "abcdef": 0xabcdef, "1000000": 1 << 24,
	} {
		checkWrite(t, lists(many(n)), size+"\r\n"+many(n)+"\r\n0\r\n\r\n")
		checkWrite(t, lists("x", many(n), "y"), "1\r\nx\r\n"+size+"\r\n"+many(n)+"\r\n1\r\ny\r\n0\r\n\r\n")
	}
}

func TestWriteOfNothing(t *testing.T) {
	for _, l := range [][][]byte{nil, {}, {nil}, {{}}, {nil, {}, nil}, lists("", ""), lists("a")[:0], {[]byte("a")[:0]}} {
		checkWrite(t, l, "0\r\n\r\n")
	}
}

func TestWriteOfEmptyListsBetweenOthers(t *testing.T) {
	checkWrite(t, lists("", "ab", "", "", "c", ""), "2\r\nab\r\n1\r\nc\r\n0\r\n\r\n")
	checkWrite(t, [][]byte{nil, []byte("a"), nil, {}, []byte("b"), nil}, "1\r\na\r\n1\r\nb\r\n0\r\n\r\n")
}

// What is handed in stays as it is, also behind the lists' lengths, and is not
// kept.
func TestWriteLeavesWhatIsHandedIn(t *testing.T) {
	whole := []byte("abcdefgh")
	l := [][]byte{whole[:2], whole[3:3], whole[4:6], whole[7:]}
	first := Write(l[:3])
	second := Write(l[:3])
	if string(whole) != "abcdefgh" || len(l[0]) != 2 || len(l[1]) != 0 || len(l[2]) != 2 || string(l[3]) != "h" {
		t.Errorf("what was handed in became %q, %q", whole, l)
	}
	want := "2\r\nab\r\n2\r\nef\r\n0\r\n\r\n"
	clear(whole)
	clear(second)
	if string(first) != want || !bytes.Equal(whole, make([]byte, 8)) {
		t.Errorf("Write: %q, want %q; what was handed in: %q", first, want, whole)
	}
	empty := Write(nil)
	clear(empty)
	checkWrite(t, nil, "0\r\n\r\n")
}

func TestThereAndBack(t *testing.T) {
	sizes := []int{0, 1, 15, 16, 255, 256}
	for _, a := range sizes {
		for _, b := range sizes {
			for _, c := range sizes {
				l := lists(many(a), many(b), many(c))
				ends(t, string(Write(l)), many(a)+many(b)+many(c))
			}
		}
	}
	for _, l := range [][][]byte{
		nil, lists("", "a", ""), lists(many(api.MaxBody)), lists(many(api.MaxBody-1), "x"), lists("\r\n", "0\r\n\r\n", "\x00\n\r"),
		slices.Collect(slices.Chunk([]byte(many(api.MaxBody)), 7)), lists(string(Write(lists("a", "b")))),
	} {
		ends(t, string(Write(l)), string(bytes.Join(l, nil)))
	}
}

// Beyond MaxBody bytes what was written is not read to its end.
func TestThereAndBackOfTooMuch(t *testing.T) {
	fails(t, string(Write(lists(many(api.MaxBody + 1))))[:5], "", api.ErrLong)
	in := string(Write(lists(many(api.MaxBody), "x")))
	check(t, in, result{many(api.MaxBody), len("fa0\r\n") + api.MaxBody + len("\r\n1\r\n"), false, api.ErrLong})
}

// P1: were what came kept or read anew with each byte or list, this would not
// end in time.
func TestMuch(t *testing.T) {
	const n = 1 << 21
	c := after(last)
	for range n {
		if b, over, code := c.Feed('x'); len(b) > 0 || over || code != api.ErrDone {
			t.Fatalf("behind the end: %q, %v, %d", b, over, code)
		}
	}
	l := make([][]byte, n)
	for i := range l {
		l[i] = []byte{byte(i)}
	}
	if got, want := len(Write(l)), n*len("1\r\nx\r\n")+len(last); got != want {
		t.Errorf("Write of %d lists: %d bytes, want %d", n, got, want)
	}
}
