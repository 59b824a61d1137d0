package request

import (
	"fmt"
	"slices"
	"strings"
	"testing"

	"lighterage/api"
)

// head: of a request with a Host and these fields, as they stand in lines.
func head(method, target string, lines ...string) api.Head {
	h := api.Head{Method: method, Target: target, Fields: []api.Field{{Name: "Host", Value: "a"}}}
	for _, line := range lines {
		name, value, _ := strings.Cut(line, ": ")
		h.Fields = append(h.Fields, api.Field{Name: name, Value: value})
	}
	return h
}

func writes(t *testing.T, h api.Head, body, want string) {
	t.Helper()
	got, code := Write(h, []byte(body))
	if string(got) != want || code != 0 {
		t.Errorf("Write of %v: %s, %d, want %s", h, short(fmt.Sprintf("%q", got)), code, short(fmt.Sprintf("%q", want)))
	}
}

func refuses(t *testing.T, h api.Head, body string, want int) {
	t.Helper()
	if got, code := Write(h, []byte(body)); len(got) > 0 || code != want {
		t.Errorf("Write of %s: %s, %d, want %d", short(fmt.Sprintf("%v", h)), short(fmt.Sprintf("%q", got)), code, want)
	}
}

func TestWrite(t *testing.T) {
	writes(t, head("PUT", "/x"), "hi", "PUT /x HTTP/1.1\r\nHost: a\r\nContent-Length: 2\r\n\r\nhi")
	writes(t, head("GET", "/"), "", "GET / HTTP/1.1\r\nHost: a\r\nContent-Length: 0\r\n\r\n")
	writes(t, head("post", "/a?b=\xff", "b: 1", "A: ", "b: 1"), "\r\n\x00", "post /a?b=\xff HTTP/1.1\r\nHost: a\r\nb: 1\r\nA: \r\nb: 1\r\nContent-Length: 3\r\n\r\n\r\n\x00")
	if got, code := Write(head("GET", "/"), nil); code != 0 || !strings.HasSuffix(string(got), "Content-Length: 0\r\n\r\n") {
		t.Errorf("Write without a body: %q, %d", got, code)
	}
	// The Host need not be the first field, nor be written so.
	h := api.Head{Method: "GET", Target: "/", Fields: []api.Field{{Name: "x", Value: "y"}, {Name: "hOST", Value: ""}}}
	writes(t, h, "", "GET / HTTP/1.1\r\nx: y\r\nhOST: \r\nContent-Length: 0\r\n\r\n")
}

// Neither the version nor the length is the head's.
func TestWriteGoesByTheBody(t *testing.T) {
	for _, n := range []int{-1, 0, 1, 5, 4001, -7} {
		h := head("GET", "/")
		h.Length, h.Minor = n, n
		writes(t, h, "abc", "GET / HTTP/1.1\r\nHost: a\r\nContent-Length: 3\r\n\r\nabc")
	}
}

func TestWriteOfAMethod(t *testing.T) {
	for _, method := range []string{"", " ", "G T", "GET ", "G\tT", "GET\r\n", "\n", "G@T", "GET:", "/", "\xff", "\u00c9", "(", "\x00"} {
		refuses(t, head(method, "/"), "", api.ErrName)
		refuses(t, head(method, "x"), many(api.MaxBody+1), api.ErrName)
		refuses(t, api.Head{Method: method}, "", api.ErrName)
	}
	refuses(t, head(strings.Repeat("@", api.MaxLine+1), "/"), "", api.ErrName)
}

func TestWriteOfATarget(t *testing.T) {
	long := strings.Repeat("x", api.MaxLine)
	for _, target := range []string{"", "x", "*", " /", "/ ", "/a b", "/\t", "\t/", "/\r", "/\n", "/\r\n", "/\x00", "/\x7f", "/x\x1fy", "http://a/", "\\",
		"/ HTTP/1.1\r\nHost: b\r\n\r\nGET /", long, "/ " + long, "/\x00" + long, "/\t" + long, "/" + long + "\n"} {
		refuses(t, head("GET", target), "", api.ErrForm)
		refuses(t, head("GET", target), many(api.MaxBody+1), api.ErrForm)
		refuses(t, api.Head{Method: "GET", Target: target}, "", api.ErrForm)
	}
	for n := range 256 {
		target := "/" + string([]byte{byte(n)})
		if n <= ' ' || n == 127 {
			refuses(t, head("GET", target), "", api.ErrForm)
		} else {
			writes(t, head("GET", target), "", "GET "+target+" HTTP/1.1\r\nHost: a\r\nContent-Length: 0\r\n\r\n")
		}
	}
}

func TestWriteOfALongFirstLine(t *testing.T) {
	fit := api.MaxLine - len("GET / HTTP/1.1")
	x := strings.Repeat("x", fit)
	rest := " HTTP/1.1\r\nHost: a\r\nContent-Length: 1\r\n\r\na"
	writes(t, head("GET", "/"+x), "a", "GET /"+x+rest)
	writes(t, head("GET"+x, "/"), "a", "GET"+x+" /"+rest)
	for _, h := range []api.Head{head("GET", "/x"+x), head("xGET"+x, "/"), head("GET", "/"+strings.Repeat(x, 99))} {
		refuses(t, h, "a", api.ErrLong)
		// It is named ahead of what the fields come to.
		h.Fields = make([]api.Field, api.MaxFields+1)
		refuses(t, h, "a", api.ErrLong)
		h.Fields = []api.Field{{Name: "Content-Length"}, {Name: ":"}}
		refuses(t, h, "a", api.ErrLong)
		h.Fields = nil
		refuses(t, h, "a", api.ErrLong)
	}
}

func TestWriteOfALongBody(t *testing.T) {
	for _, n := range []int{9, 10, 99, 100, 999, 1000, api.MaxBody - 1, api.MaxBody} {
		writes(t, head("GET", "/"), many(n), fmt.Sprintf("GET / HTTP/1.1\r\nHost: a\r\nContent-Length: %d\r\n\r\n%s", n, many(n)))
	}
	for _, n := range []int{api.MaxBody + 1, api.MaxBody + 2, 1 << 20} {
		refuses(t, head("GET", "/"), many(n), api.ErrLong)
		refuses(t, api.Head{Method: "GET", Target: "/", Fields: make([]api.Field, api.MaxFields)}, many(n), api.ErrLong)
		refuses(t, head("GET", "/", "Content-Length: 1", ":"), many(n), api.ErrLong)
		refuses(t, api.Head{Method: "GET", Target: "/"}, many(n), api.ErrLong)
	}
}

func TestWriteOfManyFields(t *testing.T) {
	lines := slices.Repeat([]string{"b: c"}, api.MaxFields-2)
	text := strings.Repeat("b: c\r\n", api.MaxFields-2)
	writes(t, head("GET", "/", lines...), "a", "GET / HTTP/1.1\r\nHost: a\r\n"+text+"Content-Length: 1\r\n\r\na")
	refuses(t, head("GET", "/", append(lines, "b: c")...), "a", api.ErrMany)
	refuses(t, head("GET", "/", append(lines, "b: c", "b: c", "b: c")...), "a", api.ErrMany)
	// It is named ahead of what each field is.
	refuses(t, head("GET", "/", append(lines, "Content-Length: 1")...), "a", api.ErrMany)
	refuses(t, head("GET", "/", append(lines, "Host: b")...), "a", api.ErrMany)
	refuses(t, head("GET", "/", append(lines, ":")...), "a", api.ErrMany)
	refuses(t, api.Head{Method: "GET", Target: "/", Fields: make([]api.Field, api.MaxFields)}, "", api.ErrMany)
	refuses(t, api.Head{Method: "GET", Target: "/", Fields: make([]api.Field, api.MaxFields-1)}, "", api.ErrHost)
}

func TestWriteOfALength(t *testing.T) {
	for _, line := range []string{"Content-Length: 2", "content-length: 2", "CONTENT-LENGTH: ", "Transfer-Encoding: chunked", "transfer-ENCODING: gzip"} {
		refuses(t, head("GET", "/", line), "ab", api.ErrLength)
		refuses(t, head("GET", "/", "x: y", line, line), "ab", api.ErrLength)
		// It is named ahead of the Host, and of what fields.Text tells.
		refuses(t, head("GET", "/", line, "Host: b"), "ab", api.ErrLength)
		refuses(t, head("GET", "/", ":", line), "ab", api.ErrLength)
		h := head("GET", "/", line)
		h.Fields = h.Fields[1:]
		refuses(t, h, "ab", api.ErrLength)
	}
	writes(t, head("GET", "/", "Content-Lengt: 1", "X-Transfer-Encoding: chunked"), "",
		"GET / HTTP/1.1\r\nHost: a\r\nContent-Lengt: 1\r\nX-Transfer-Encoding: chunked\r\nContent-Length: 0\r\n\r\n")
}

func TestWriteOfAHost(t *testing.T) {
	for _, fields := range [][]api.Field{nil, {}, {{Name: "Hosts", Value: "a"}}, {{Name: "Host:", Value: "a"}}, {{Name: "Host ", Value: "a"}}, {{Name: ""}}} {
		refuses(t, api.Head{Method: "GET", Target: "/", Fields: fields}, "", api.ErrHost)
	}
	for _, name := range []string{"Host", "host", "HOST"} {
		refuses(t, head("GET", "/", name+": a"), "", api.ErrHost)
		refuses(t, head("GET", "/", name+": b", name+": c"), "", api.ErrHost)
		refuses(t, head("GET", "/", ":", name+": b"), "", api.ErrHost)
	}
}

func TestWriteOfWhatIsNoField(t *testing.T) {
	for line, code := range map[string]int{
		"": api.ErrName, "a b: c": api.ErrName, "a\r\nb: c": api.ErrName, "\xff: c": api.ErrName,
		strings.Repeat("n", api.MaxName+1) + ": c": api.ErrLong, "n: " + strings.Repeat("v", api.MaxLine-2): api.ErrLong,
		"n: v\r\nContent-Length: 5": api.ErrChar, "n: \n": api.ErrChar, "n: \x00": api.ErrChar, "n:  v": api.ErrChar, "n: v\t": api.ErrChar,
	} {
		refuses(t, head("GET", "/", line), "a", code)
		refuses(t, head("GET", "/", "a: b", line, "c: d"), "a", code)
		refuses(t, head("GET", "/", append(slices.Repeat([]string{"a: b"}, api.MaxFields-3), line)...), "a", code)
	}
	// Of several the first one tells its code.
	refuses(t, head("GET", "/", "n:  v", ""), "a", api.ErrChar)
	refuses(t, head("GET", "/", "", "n:  v"), "a", api.ErrName)
	h := head("GET", "/", "")
	h.Fields[0].Value = " a"
	refuses(t, h, "", api.ErrChar)
	line := "n: " + strings.Repeat("v", api.MaxLine-3)
	writes(t, head("GET", "/", line), "", "GET / HTTP/1.1\r\nHost: a\r\n"+line+"\r\nContent-Length: 0\r\n\r\n")
}

// What is handed in stays as it is, also behind the lists' lengths, and is not
// kept.
func TestWriteLeavesWhatIsHandedIn(t *testing.T) {
	h := head("PUT", "/x", "b: c", "d: e")
	h.Fields = h.Fields[:2]
	body := []byte("abcd")
	got, code := Write(h, body[:3])
	again, _ := Write(h, body[:3])
	if string(body) != "abcd" || fmt.Sprint(h.Fields[:3]) != "[{Host a} {b c} {d e}]" {
		t.Errorf("what was handed in became %q, %v", body, h.Fields[:3])
	}
	clear(body)
	clear(h.Fields)
	clear(again)
	if string(got) != "PUT /x HTTP/1.1\r\nHost: a\r\nb: c\r\nContent-Length: 3\r\n\r\nabc" || code != 0 {
		t.Errorf("Write shares memory: %q, %d", got, code)
	}
}

// readText: what a written request is read as.
func readText(h api.Head, body string) string {
	var lines []string
	for _, f := range h.Fields {
		lines = append(lines, f.Name+": "+f.Value)
	}
	lines = append(lines, fmt.Sprintf("Content-Length: %d", len(body)))
	s := headText(h.Method, h.Target, 1, len(body), lines...)
	if body != "" {
		s += bodyText(body)
	}
	return s + endText
}

// There and back; and no request is two, whatever its body is.
func TestThereAndBack(t *testing.T) {
	heads := []api.Head{
		head("GET", "/"),
		head("PATCH", "/files/1?\xff", "a: b: c", "A: ", "a: x\ty"),
		head("X"+strings.Repeat("x", api.MaxLine-len("X / HTTP/1.1")), "/", "n: "+strings.Repeat("v", api.MaxLine-3), strings.Repeat("n", api.MaxName)+": "),
		head("PUT", "/x", slices.Repeat([]string{"b: c"}, api.MaxFields-2)...),
	}
	bodies := []string{"", "a", "\r\n", "\n", "\x00", "\r\n\r\n", get + "\r\n", "\r\n" + get + "\r\n", "0\r\n\r\n", "0\r\n\r\n" + get + "\r\n", "HTTP/1.1", many(255), many(api.MaxBody)}
	for _, h := range heads {
		for _, a := range bodies {
			one, code := Write(h, []byte(a))
			if code != 0 {
				t.Fatalf("Write of %v: %d", h, code)
			}
			if n := len(one); n <= 1000 {
				over(t, string(one), readText(h, a))
			}
			if got := whole(string(one)); got != (outcome{readText(h, a), false, false}) {
				t.Errorf("%v and %s, written and read: %v", h, short(fmt.Sprintf("%q", a)), short(got.events))
			}
			for _, b := range bodies {
				two, _ := Write(heads[1], []byte(b))
				want := outcome{readText(h, a) + readText(heads[1], b), false, false}
				if got := whole(string(one) + string(two)); got != want {
					t.Errorf("two requests, written and read: %s, want %s", short(got.events), short(want.events))
				}
				if got := pieces(string(one)+string(two), 1); got != want {
					t.Errorf("two requests, written and read byte by byte: %s, want %s", short(got.events), short(want.events))
				}
			}
		}
	}
	for _, body := range texts([]string{"\r", "\n", "0", "G / HTTP/1.1", "Host:a", "\x00"}, 4) {
		b, _ := Write(heads[0], []byte(body))
		if got := whole(string(b) + get); got != (outcome{readText(heads[0], body), true, false}) {
			t.Errorf("a body %q, written and read: %v", body, got)
		}
	}
}

// A body in a body: what is read is written again as it was.
func TestWriteOfWhatWasRead(t *testing.T) {
	inner, _ := Write(head("GET", "/"), []byte("x"))
	outer, _ := Write(head("PUT", "/y"), inner)
	l := New().Feed(outer)
	if len(l) != 3 {
		t.Fatalf("%q was read as %v", outer, l)
	}
	h := l[0].Head
	h.Fields = h.Fields[:len(h.Fields)-1]
	if again, code := Write(h, l[1].Bytes); string(again) != string(outer) || code != 0 {
		t.Errorf("%q was written again as %q, %d", outer, again, code)
	}
}
