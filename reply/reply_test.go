package reply

import (
	"fmt"
	"math"
	"slices"
	"strings"
	"testing"

	"lighterage/api"
	"lighterage/fields"
)

// words: each status that has one.
var words = map[int]string{
	200: "OK", 201: "Created", 204: "No Content",
	400: "Bad Request", 404: "Not Found", 405: "Method Not Allowed", 409: "Conflict",
	412: "Precondition Failed", 413: "Content Too Large", 415: "Unsupported Media Type",
	507: "Insufficient Storage",
}

// wordless: beside those that have a word, far from them, and alike in their
// lowest bits.
var wordless = []int{
	0, 1, 2, 100, 199, 202, 203, 205, 206, 399, 401, 403, 406, 408, 410, 411, 414, 416, 500, 506, 508, 999, 2000, 20000,
	-1, -199, -200, -201, -204, -404, -507, 200 + 1<<8, 200 + 1<<16, 200 + 1<<32, 404 - 1<<32, math.MaxInt, math.MinInt, math.MaxInt32, math.MinInt32,
}

// list: the fields that stand in these lines.
func list(lines ...string) []api.Field {
	var l []api.Field
	for _, line := range lines {
		name, value, _ := strings.Cut(line, ": ")
		l = append(l, api.Field{Name: name, Value: value})
	}
	return l
}

func short(s string) string {
	if len(s) <= 300 {
		return s
	}
	return fmt.Sprintf("%s.. (%d bytes)", s[:300], len(s))
}

func writes(t *testing.T, r api.Reply, want string) {
	t.Helper()
	got, code := Write(r)
	if string(got) != want || code != 0 {
		t.Errorf("Write of %s: %s, %d, want %s", short(fmt.Sprintf("%+v", r)), short(fmt.Sprintf("%q", got)), code, short(fmt.Sprintf("%q", want)))
	}
}

func refuses(t *testing.T, r api.Reply, want int) {
	t.Helper()
	if got, code := Write(r); len(got) > 0 || code != want {
		t.Errorf("Write of %s: %s, %d, want %d", short(fmt.Sprintf("%+v", r)), short(fmt.Sprintf("%q", got)), code, want)
	}
}

func TestWord(t *testing.T) {
	for status := -1100; status <= 70000; status++ {
		if got := Word(status); got != words[status] {
			t.Errorf("Word of %d: %q, want %q", status, got, words[status])
		}
	}
	for _, status := range wordless {
		if got := Word(status); got != "" {
			t.Errorf("Word of %d: %q", status, got)
		}
	}
}

func TestWrite(t *testing.T) {
	writes(t, api.Reply{Status: 200}, "HTTP/1.1 200 OK\r\nContent-Length: 0\r\n\r\n")
	writes(t, api.Reply{Status: 201, Fields: list("Location: /files/1")}, "HTTP/1.1 201 Created\r\nLocation: /files/1\r\nContent-Length: 0\r\n\r\n")
	writes(t, api.Reply{Status: 409, Fields: list("A: b"), Body: []byte("hi")}, "HTTP/1.1 409 Conflict\r\nA: b\r\nContent-Length: 2\r\n\r\nhi")
	// In their order, each as it is told, an empty value and one told twice too.
	writes(t, api.Reply{Status: 413, Fields: list("b: 1", "a: ", "B: x: y", "b: 1", "c: \xff\tz"), Body: []byte("x\r\n\r\n")},
		"HTTP/1.1 413 Content Too Large\r\nb: 1\r\na: \r\nB: x: y\r\nb: 1\r\nc: \xff\tz\r\nContent-Length: 5\r\n\r\nx\r\n\r\n")
	// What a request could not have, a reply may.
	writes(t, api.Reply{Status: 400, Fields: list("Host: a", "host: b", "Transfer-Encoding: chunked")},
		"HTTP/1.1 400 Bad Request\r\nHost: a\r\nhost: b\r\nTransfer-Encoding: chunked\r\nContent-Length: 0\r\n\r\n")
}

func TestWriteOfAStatus(t *testing.T) {
	for status, word := range words {
		writes(t, api.Reply{Status: status}, fmt.Sprintf("HTTP/1.1 %d %s\r\nContent-Length: 0\r\n\r\n", status, word))
		writes(t, api.Reply{Status: status, Fields: list("a: b"), Body: []byte("c")}, fmt.Sprintf("HTTP/1.1 %d %s\r\na: b\r\nContent-Length: 1\r\n\r\nc", status, word))
	}
	for status := -600; status <= 1100; status++ {
		if words[status] == "" {
			refuses(t, api.Reply{Status: status}, api.ErrKind)
		}
	}
	for _, status := range wordless {
		refuses(t, api.Reply{Status: status, Body: []byte("a")}, api.ErrKind)
		// It is named ahead of all that the fields come to.
		refuses(t, api.Reply{Status: status, Fields: make([]api.Field, api.MaxFields)}, api.ErrKind)
		refuses(t, api.Reply{Status: status, Fields: slices.Repeat(list("Content-Length: 1"), api.MaxFields)}, api.ErrKind)
		refuses(t, api.Reply{Status: status, Fields: list("Content-Length: 1")}, api.ErrKind)
		for _, line := range badLines {
			refuses(t, api.Reply{Status: status, Fields: list(line.text)}, api.ErrKind)
		}
	}
}

func TestWriteOfManyFields(t *testing.T) {
	for _, l := range [][]api.Field{nil, {}, list("a: b")[:0]} {
		writes(t, api.Reply{Status: 404, Fields: l, Body: []byte("x")}, "HTTP/1.1 404 Not Found\r\nContent-Length: 1\r\n\r\nx")
	}
	for n := 1; n < api.MaxFields; n++ {
		lines := make([]string, n)
		for i := range lines {
			lines[i] = fmt.Sprintf("n%d: v%d", i, n-i)
		}
		writes(t, api.Reply{Status: 404, Fields: list(lines...)}, "HTTP/1.1 404 Not Found\r\n"+strings.Join(lines, "\r\n")+"\r\nContent-Length: 0\r\n\r\n")
	}
	for _, n := range []int{api.MaxFields, api.MaxFields + 1, 2 * api.MaxFields, 1000} {
		lines := slices.Repeat([]string{"a: b"}, n)
		refuses(t, api.Reply{Status: 200, Fields: list(lines...), Body: []byte("x")}, api.ErrMany)
		// It is named ahead of what each field is.
		refuses(t, api.Reply{Status: 200, Fields: make([]api.Field, n)}, api.ErrMany)
		for _, at := range []int{0, n / 2, n - 1} {
			for _, line := range append([]faulty{{"content-LENGTH: 1", 0}}, badLines...) {
				bad := slices.Clone(lines)
				bad[at] = line.text
				refuses(t, api.Reply{Status: 200, Fields: list(bad...)}, api.ErrMany)
			}
		}
	}
}

func TestWriteOfALength(t *testing.T) {
	for _, name := range []string{"Content-Length", "content-length", "CONTENT-LENGTH", "cONTENT-lENGTH", "Content-lengtH"} {
		for _, value := range []string{"2", "3", "", "x", "-1", " 2", "2\r\n", "\x00", strings.Repeat("2", api.MaxLine)} {
			line := name + ": " + value
			body := []byte("ab")
			refuses(t, api.Reply{Status: 200, Fields: list(line), Body: body}, api.ErrLength)
			refuses(t, api.Reply{Status: 200, Fields: list(line, line), Body: body}, api.ErrLength)
			refuses(t, api.Reply{Status: 200, Fields: list(line, "a: b"), Body: body}, api.ErrLength)
			refuses(t, api.Reply{Status: 200, Fields: list("a: b", line), Body: body}, api.ErrLength)
			refuses(t, api.Reply{Status: 200, Fields: list(append(slices.Repeat([]string{"a: b"}, api.MaxFields-2), line)...), Body: body}, api.ErrLength)
			// It is named ahead of what fields.Text tells, of whichever field.
			for _, bad := range badLines {
				refuses(t, api.Reply{Status: 200, Fields: list(bad.text, line), Body: body}, api.ErrLength)
				refuses(t, api.Reply{Status: 200, Fields: list(line, bad.text), Body: body}, api.ErrLength)
			}
		}
	}
	// Names that are nearly that one.
	near := []string{"Content-Lengt: 9", "Content-Lengths: 9", "XContent-Length: 9", "Content_Length: 9", "ContentLength: 9", "Content--Length: 9", "Content-Lengtx: 9"}
	writes(t, api.Reply{Status: 200, Fields: list(near...), Body: []byte("ab")},
		"HTTP/1.1 200 OK\r\n"+strings.Join(near, "\r\n")+"\r\nContent-Length: 2\r\n\r\nab")
	for _, line := range []string{"Content-Length : 1", " Content-Length: 1", "Content-Length:: 1", "Content-Length\r\n: 1", "Content\x0dLength: 1", "Content-Leng\u0165h: 1"} {
		refuses(t, api.Reply{Status: 200, Fields: list(line)}, api.ErrName)
	}
}

// faulty: the text of a line that is no field, and what fields.Text tells of
// it.
type faulty struct {
	text string
	code int
}

var badLines = []faulty{
	{"", api.ErrName}, {"a b: c", api.ErrName}, {"a:b: c", api.ErrName}, {"a\r\nb: c", api.ErrName}, {"\xff: c", api.ErrName}, {"a\x00: c", api.ErrName},
	{"a b" + strings.Repeat("n", api.MaxName) + ": \x00", api.ErrName}, {"(: " + strings.Repeat("v", api.MaxLine), api.ErrName},
	{strings.Repeat("n", api.MaxName+1) + ": c", api.ErrLong}, {"n: " + strings.Repeat("v", api.MaxLine-2), api.ErrLong},
	{strings.Repeat("n", api.MaxName+1) + ":  c", api.ErrLong}, {"n: " + strings.Repeat("\r", api.MaxLine-2), api.ErrLong},
	{"n: v\r\nContent-Length: 5", api.ErrChar}, {"n: \n", api.ErrChar}, {"n: \r", api.ErrChar}, {"n: \x00", api.ErrChar}, {"n: a\x7fb", api.ErrChar},
	{"n:  v", api.ErrChar}, {"n: \tv", api.ErrChar}, {"n: v ", api.ErrChar}, {"n: v\t", api.ErrChar}, {"n:  ", api.ErrChar},
}

func TestWriteOfWhatIsNoField(t *testing.T) {
	good := slices.Repeat([]string{"a: b"}, api.MaxFields-2)
	for _, bad := range badLines {
		for _, body := range []string{"", "a"} {
			refuses(t, api.Reply{Status: 200, Fields: list(bad.text), Body: []byte(body)}, bad.code)
			refuses(t, api.Reply{Status: 507, Fields: list("a: b", bad.text, "c: d"), Body: []byte(body)}, bad.code)
			refuses(t, api.Reply{Status: 204, Fields: list(append(good, bad.text)...), Body: []byte(body)}, bad.code)
		}
		// Of several the first one tells its code.
		for _, other := range badLines {
			refuses(t, api.Reply{Status: 200, Fields: list("a: b", bad.text, other.text)}, bad.code)
		}
	}
	// Just as long as may be.
	for _, line := range []string{"n: " + strings.Repeat("v", api.MaxLine-3), strings.Repeat("n", api.MaxName) + ": " + strings.Repeat("v", api.MaxLine-api.MaxName-2)} {
		writes(t, api.Reply{Status: 200, Fields: list(line)}, "HTTP/1.1 200 OK\r\n"+line+"\r\nContent-Length: 0\r\n\r\n")
	}
}

// Each byte at each place of a name and of a value.
func TestWriteOfEachByteOfAField(t *testing.T) {
	for n := range 256 {
		c := string([]byte{byte(n)})
		for _, f := range []api.Field{
			{Name: c}, {Name: c + "a"}, {Name: "a" + c + "b"}, {Name: "a" + c},
			{Name: "a", Value: c}, {Name: "a", Value: c + "b"}, {Name: "a", Value: "b" + c + "d"}, {Name: "a", Value: "b" + c},
		} {
			r := api.Reply{Status: 200, Fields: []api.Field{{Name: "x", Value: "y"}, f}}
			if text, code := fields.Text(f); code != 0 {
				refuses(t, r, code)
			} else {
				writes(t, r, "HTTP/1.1 200 OK\r\nx: y\r\n"+text+"\r\nContent-Length: 0\r\n\r\n")
			}
		}
	}
}

func TestWriteOfABody(t *testing.T) {
	for _, body := range [][]byte{nil, {}, []byte("abc")[:0]} {
		writes(t, api.Reply{Status: 200, Body: body}, "HTTP/1.1 200 OK\r\nContent-Length: 0\r\n\r\n")
	}
	for n, length := range map[int]string{1: "1", 9: "9", 10: "10", 11: "11", 99: "99", 100: "100", 101: "101", 999: "999", 1000: "1000",
		api.MaxBody: "4000", api.MaxBody + 1: "4001", 1 << 20: "1048576"} {
		body := strings.Repeat("x", n)
		writes(t, api.Reply{Status: 200, Body: []byte(body)}, "HTTP/1.1 200 OK\r\nContent-Length: "+length+"\r\n\r\n"+body)
	}
	every := make([]byte, 256)
	for n := range every {
		every[n] = byte(n)
		writes(t, api.Reply{Status: 204, Body: []byte{byte(n)}}, "HTTP/1.1 204 No Content\r\nContent-Length: 1\r\n\r\n"+string([]byte{byte(n)}))
	}
	writes(t, api.Reply{Status: 400, Body: every}, "HTTP/1.1 400 Bad Request\r\nContent-Length: 256\r\n\r\n"+string(every))
	for body, length := range map[string]string{"\n": "1", "\r": "1", "\r\n": "2", "\r\n\r\n": "4", "a\nb\r\n": "5", "\u00e9": "2", "%d%s": "4", "HTTP/1.1 200 OK\r\nContent-Length: 0\r\n\r\n": "38"} {
		writes(t, api.Reply{Status: 415, Body: []byte(body)}, "HTTP/1.1 415 Unsupported Media Type\r\nContent-Length: "+length+"\r\n\r\n"+body)
	}
}

// What is handed in stays as it is, also behind the lists' lengths, and is not
// kept.
func TestWriteLeavesWhatIsHandedIn(t *testing.T) {
	l := list("a: b", "c: d", "e: f", "g: h")
	body := []byte("abcd")
	r := api.Reply{Status: 201, Fields: l[:2], Body: body[1:3]}
	got, code := Write(r)
	again, _ := Write(r)
	refuses(t, api.Reply{Status: 1, Fields: l[:2], Body: body[1:3]}, api.ErrKind)
	l[3].Name = ""
	refuses(t, api.Reply{Status: 201, Fields: l, Body: body[1:3]}, api.ErrName)
	writes(t, api.Reply{Status: 201, Fields: l[:3], Body: body[1:3]}, "HTTP/1.1 201 Created\r\na: b\r\nc: d\r\ne: f\r\nContent-Length: 2\r\n\r\nbc")
	clear(again[:cap(again)])
	if string(body) != "abcd" || fmt.Sprint(l) != "[{a b} {c d} {e f} { h}]" {
		t.Errorf("what was handed in became %q, %v", body, l)
	}
	clear(body)
	clear(l)
	if string(got) != "HTTP/1.1 201 Created\r\na: b\r\nc: d\r\nContent-Length: 2\r\n\r\nbc" || code != 0 {
		t.Errorf("Write shares memory: %q, %d", got, code)
	}
}

// What stands behind the lists' lengths is not read: neither a length nor what
// is no field is met there.
func TestWriteReadsNothingBehind(t *testing.T) {
	l := list("a: b", "Content-Length: 1", "", "n:  v")
	writes(t, api.Reply{Status: 200, Fields: l[:1], Body: []byte("xy")[:1]}, "HTTP/1.1 200 OK\r\na: b\r\nContent-Length: 1\r\n\r\nx")
	writes(t, api.Reply{Status: 200, Fields: l[:0]}, "HTTP/1.1 200 OK\r\nContent-Length: 0\r\n\r\n")
	long := append(list(slices.Repeat([]string{"a: b"}, api.MaxFields)...), l...)
	writes(t, api.Reply{Status: 200, Fields: long[:api.MaxFields-1]}, "HTTP/1.1 200 OK\r\n"+strings.Repeat("a: b\r\n", api.MaxFields-1)+"Content-Length: 0\r\n\r\n")
}

// The chapter's words, read plainly: each code where it stands in their order.
func plain(r api.Reply) (string, int) {
	if words[r.Status] == "" {
		return "", api.ErrKind
	}
	if len(r.Fields) >= 16 {
		return "", api.ErrMany
	}
	head := fmt.Sprintf("HTTP/1.1 %d %s\r\n", r.Status, words[r.Status])
	for _, f := range r.Fields {
		if strings.ToLower(f.Name) == "content-length" {
			return "", api.ErrLength
		}
	}
	for _, f := range r.Fields {
		text, code := fields.Text(f)
		if code != 0 {
			return "", code
		}
		head += text + "\r\n"
	}
	return fmt.Sprintf("%sContent-Length: %d\r\n\r\n%s", head, len(r.Body), r.Body), 0
}

// All lists of up to three of some fields, ahead of none or of nearly as many
// as may be, with some statuses and bodies.
func TestWriteIsPlain(t *testing.T) {
	lines := []string{"a: b", "A: ", "content-length: 1", "a b: c", "n:  v", strings.Repeat("n", api.MaxName+1) + ": v"}
	met := map[int]int{}
	var walk func(l []string, depth int)
	walk = func(l []string, depth int) {
		for _, status := range []int{200, 507, 500, -1} {
			for _, body := range []string{"", "hi\r\n"} {
				r := api.Reply{Status: status, Fields: list(l...), Body: []byte(body)}
				want, code := plain(r)
				met[code]++
				if code != 0 {
					refuses(t, r, code)
				} else {
					writes(t, r, want)
				}
			}
		}
		if depth == 0 {
			return
		}
		for _, line := range lines {
			walk(append(slices.Clone(l), line), depth-1)
		}
	}
	for _, n := range []int{0, api.MaxFields - 3, api.MaxFields - 2, api.MaxFields - 1} {
		walk(slices.Repeat([]string{"x: y"}, n), 3)
	}
	for _, code := range []int{0, api.ErrKind, api.ErrMany, api.ErrLength, api.ErrName, api.ErrLong, api.ErrChar} {
		if met[code] < 40 {
			t.Errorf("the code %d was met %d times", code, met[code])
		}
	}
}
