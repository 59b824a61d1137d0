package request

import (
	"fmt"
	"reflect"
	"slices"
	"strings"
	"testing"

	"lighterage/api"
	"lighterage/chunks"
	"lighterage/fields"
	"lighterage/lines"
)

// outcome: what was told of all that came, and how the reader stands then.
type outcome struct {
	events     string
	busy, dead bool
}

// headText: an event EHead as a text; fields as they stand in lines.
func headText(method, target string, minor, length int, fields ...string) string {
	return fmt.Sprintf("head %q %q %d %q %d|", method, target, minor, fields, length)
}

func bodyText(s string) string { return fmt.Sprintf("body %q|", s) }

func failText(code int) string { return fmt.Sprintf("fail %d|", code) }

const endText = "end|"

// show: events as a text. What no event of a kind has is told, too, if one has
// it.
func show(l []api.Event) string {
	var b strings.Builder
	for _, e := range l {
		switch e.Kind {
		case api.EHead:
			h := e.Head
			var texts []string
			for _, f := range h.Fields {
				texts = append(texts, f.Name+": "+f.Value)
			}
			b.WriteString(headText(h.Method, h.Target, h.Minor, h.Length, texts...))
			e.Head = api.Head{}
		case api.EBody:
			b.WriteString(bodyText(string(e.Bytes)))
			e.Bytes = nil
		case api.EEnd:
			b.WriteString(endText)
		case api.EFail:
			b.WriteString(failText(e.Code))
			e.Code = 0
		}
		if !reflect.DeepEqual(e, api.Event{Kind: e.Kind}) {
			fmt.Fprintf(&b, "and more: %v|", e)
		}
	}
	return b.String()
}

func short(s string) string {
	if len(s) > 400 {
		return s[:200] + " .. " + s[len(s)-200:]
	}
	return s
}

func stand(p *Parser, events []api.Event) outcome { return outcome{show(events), p.Busy(), p.Dead()} }

func whole(in string) outcome {
	p := New()
	return stand(p, p.Feed([]byte(in)))
}

// pieces: in fed in pieces of that size, by Join.
func pieces(in string, size int) outcome {
	p := New()
	var all []api.Event
	for piece := range slices.Chunk([]byte(in), size) {
		all = append(all, p.Feed(piece)...)
	}
	return stand(p, Join(all))
}

func cut(in string, at int) outcome {
	p := New()
	ahead := p.Feed([]byte(in[:at]))
	return stand(p, Join(append(ahead, p.Feed([]byte(in[at:]))...)))
}

// check feeds in as a whole, byte by byte, and cut at each place: how bytes
// fall does not matter. Long ones are cut at fewer places.
func check(t *testing.T, in string, want outcome) {
	t.Helper()
	differ := func(got outcome, how ...any) bool {
		if got == want {
			return false
		}
		t.Helper()
		t.Errorf("%s, fed %s:\n%s %v %v, want\n%s %v %v", short(fmt.Sprintf("%q", in)), fmt.Sprint(how...),
			short(got.events), got.busy, got.dead, short(want.events), want.busy, want.dead)
		return true
	}
	if differ(whole(in), "as a whole") || differ(pieces(in, 1), "byte by byte") || differ(pieces(in, 7), "by sevens") {
		return
	}
	if len(in) > 150 {
		return
	}
	for at := range len(in) + 1 {
		if differ(cut(in, at), "cut at ", at) {
			return
		}
	}
}

// open: something of a request came that is not over, and did not fail.
func open(t *testing.T, in, events string) {
	t.Helper()
	check(t, in, outcome{events, true, false})
}

// over: all requests are over.
func over(t *testing.T, in, events string) {
	t.Helper()
	check(t, in, outcome{events, false, false})
}

// fails: the last byte of in brings the code, and nothing is read behind it.
func fails(t *testing.T, in, events string, code int) {
	t.Helper()
	want := outcome{events + failText(code), false, true}
	check(t, in, want)
	if got := whole(in[:len(in)-1]); got.dead || got.events != events {
		t.Errorf("%s: failed ahead of its last byte: %s", short(fmt.Sprintf("%q", in)), short(got.events))
	}
	for _, behind := range []string{"\r\n", "GET / HTTP/1.1\r\nHost: a\r\n\r\n", "\n\x00a", "0\r\n\r\n"} {
		if got := whole(in + behind); got != want {
			t.Errorf("%s, and %q behind it: %v", short(fmt.Sprintf("%q", in)), behind, short(got.events))
		}
	}
	p := New()
	p.Feed([]byte(in))
	for n := range 256 {
		if l := p.Feed([]byte{byte(n)}); len(l) > 0 || p.Busy() || !p.Dead() {
			t.Errorf("%s, and %q behind it: %v", short(fmt.Sprintf("%q", in)), byte(n), l)
		}
	}
}

// many: n bytes of all kinds, CR, LF and NUL among them.
func many(n int) string {
	b := make([]byte, n)
	for i := range b {
		b[i] = byte(i*7 + i/256)
	}
	return string(b)
}

const (
	first = "GET / HTTP/1.1\r\n"
	get   = first + "Host: a\r\n"
	// getText is what get, with an empty line, is read as.
	getText = `head "GET" "/" 1 ["Host: a"] 0|end|`
)

func TestOneRequest(t *testing.T) {
	over(t, get+"\r\n", getText)
	over(t, "PUT /a/b?c=d#e HTTP/1.0\r\n\r\n", headText("PUT", "/a/b?c=d#e", 0, 0)+endText)
	over(t, "PATCH /files/1 HTTP/1.1\r\nhost:inland\r\nX:\r\ncontent-length:\t3 \r\n\r\nabc",
		headText("PATCH", "/files/1", 1, 3, "host: inland", "X: ", "content-length: 3")+bodyText("abc")+endText)
	over(t, "!#$%&'*+-.^_`|~09azAZ // HTTP/1.1\r\nHOST: \r\n\r\n", headText("!#$%&'*+-.^_`|~09azAZ", "//", 1, 0, "HOST: ")+endText)
	over(t, "get /\xff\x80\"<>\\ HTTP/1.1\r\nHost: a\r\nHosts: b\r\nHost-: c\r\n\r\n",
		headText("get", "/\xff\x80\"<>\\", 1, 0, "Host: a", "Hosts: b", "Host-: c")+endText)
	// Fields are told in their order, also those of one name.
	over(t, first+"B: 1\r\nA: 2\r\nHost: a\r\nb: 3\r\nB: 1\r\n\r\n", headText("GET", "/", 1, 0, "B: 1", "A: 2", "Host: a", "b: 3", "B: 1")+endText)
}

func TestNothing(t *testing.T) {
	over(t, "", "")
	p := New()
	for range 3 {
		if l := append(p.Feed(nil), p.Feed([]byte{})...); len(l) > 0 || p.Busy() || p.Dead() {
			t.Errorf("fed nothing: %v", l)
		}
	}
	// Nor does it change what came.
	p.Feed([]byte("GET / HTTP/1.0\r\n\r"))
	if l := p.Feed(nil); len(l) > 0 || !p.Busy() {
		t.Errorf("fed nothing within a head: %v", l)
	}
	if got := show(p.Feed([]byte("\n"))); got != headText("GET", "/", 0, 0)+endText {
		t.Errorf("behind nothing: %s", got)
	}
}

func TestPiecesOfARequest(t *testing.T) {
	in := get + "Content-Length: 2\r\n\r\nab"
	head := headText("GET", "/", 1, 2, "Host: a", "Content-Length: 2")
	for n := 1; n < len(in)-2; n++ {
		open(t, in[:n], "")
	}
	open(t, in[:len(in)-2], head)
	open(t, in[:len(in)-1], head+bodyText("a"))
	over(t, in, head+bodyText("ab")+endText)
}

func TestEmptyLinesAheadOfAFirstLine(t *testing.T) {
	for _, n := range []int{1, 2, 3, 20} {
		empty := strings.Repeat("\r\n", n)
		over(t, empty, "")
		open(t, empty+"\r", "")
		open(t, empty+"G", "")
		over(t, empty+get+"\r\n", getText)
		over(t, get+"\r\n"+empty, getText)
		open(t, get+"\r\n"+empty+"\r", getText)
		over(t, get+"\r\n"+empty+get+"\r\n", getText+getText)
		fails(t, empty+"\n", "", api.ErrLine)
		fails(t, empty+" \r\n", "", api.ErrForm)
		fails(t, empty+"\t\r\n", "", api.ErrForm)
	}
	open(t, "\r", "")
	fails(t, "\r\r", "", api.ErrLine)
	fails(t, "\rG", "", api.ErrLine)
}

func TestSeveralRequests(t *testing.T) {
	ins := []string{
		get + "\r\n",
		get + "Content-Length: 4\r\n\r\nGET ",
		"PUT /x HTTP/1.0\r\nContent-Length: 2\r\n\r\n\r\n",
		"POST /y HTTP/1.1\r\nHost: b\r\nTransfer-Encoding: chunked\r\n\r\n3\r\na\r\n\r\n0\r\nX: y\r\n\r\n",
		"\r\nDELETE /z HTTP/1.0\r\n\r\n",
	}
	wants := []string{
		getText,
		headText("GET", "/", 1, 4, "Host: a", "Content-Length: 4") + bodyText("GET ") + endText,
		headText("PUT", "/x", 0, 2, "Content-Length: 2") + bodyText("\r\n") + endText,
		headText("POST", "/y", 1, -1, "Host: b", "Transfer-Encoding: chunked") + bodyText("a\r\n") + endText,
		headText("DELETE", "/z", 0, 0) + endText,
	}
	for i, a := range ins {
		for j, b := range ins {
			over(t, a+b, wants[i]+wants[j])
			open(t, a+b+"G", wants[i]+wants[j])
			fails(t, a+b+"\x00", wants[i]+wants[j], api.ErrChar)
			open(t, a+b[:1], wants[i])
		}
	}
	over(t, strings.Join(ins, ""), strings.Join(wants, ""))
	over(t, strings.Repeat(get+"\r\n", 200), strings.Repeat(getText, 200))
}

// Nothing of a head stays for the next one.
func TestHeadsBeginAnew(t *testing.T) {
	fails(t, get+"\r\n"+first+"\r\n", getText, api.ErrHost)
	full := get + strings.Repeat("a:\r\n", api.MaxFields-1)
	p := New()
	for range 3 {
		l := p.Feed([]byte(full + "\r\n"))
		if len(l) != 2 || len(l[0].Head.Fields) != api.MaxFields {
			t.Errorf("a full head: %v", l)
		}
	}
	two := get + "Content-Length: 1\r\n\r\na" + get + "\r\n"
	over(t, two, headText("GET", "/", 1, 1, "Host: a", "Content-Length: 1")+bodyText("a")+endText+getText)
	chunked := get + "Transfer-Encoding: chunked\r\n\r\n"
	text := headText("GET", "/", 1, -1, "Host: a", "Transfer-Encoding: chunked")
	over(t, chunked+"0\r\n\r\n"+get+"\r\n"+chunked+"0\r\n\r\n", text+endText+getText+text+endText)
	full = chunked + string(chunks.Write([][]byte{[]byte(many(api.MaxBody))}))
	over(t, full+full, strings.Repeat(text+bodyText(many(api.MaxBody))+endText, 2))
}

func TestFirstLine(t *testing.T) {
	for line, code := range map[string]int{
		// Not just two blanks; named ahead of all else.
		"GET": api.ErrForm, "GET / ": api.ErrKind, "GET /": api.ErrForm, "GET /HTTP/1.1": api.ErrForm, " ": api.ErrForm, "   ": api.ErrForm,
		"GET  / HTTP/1.1": api.ErrForm, "GET /  HTTP/1.1": api.ErrForm, " GET / HTTP/1.1": api.ErrForm, "GET / HTTP/1.1 ": api.ErrForm,
		"GET / x HTTP/1.1": api.ErrForm, "G@T /  HTTP/1.1": api.ErrForm, "\t": api.ErrForm, "GET\t/\tHTTP/1.1": api.ErrForm, "@ x": api.ErrForm,
		"GET /\tHTTP/1.1": api.ErrForm, "a": api.ErrForm, "Host: a": api.ErrForm, "@": api.ErrForm, "    ": api.ErrForm,
		// The method.
		"  ": api.ErrName, " / HTTP/1.1": api.ErrName, " x HTTP/2": api.ErrName, "G@T / HTTP/1.1": api.ErrName, "GET: / HTTP/1.1": api.ErrName,
		"G\tT / HTTP/1.1": api.ErrName, "\xff / HTTP/1.1": api.ErrName, "@ x y": api.ErrName, "(GET) /\t HTTP/1.1": api.ErrName, "/ / /": api.ErrName,
		// The target.
		"GET x HTTP/1.1": api.ErrForm, "GET  HTTP/1.1": api.ErrForm, "GET * HTTP/1.1": api.ErrForm, "GET x/ HTTP/1.1": api.ErrForm,
		"GET /\t HTTP/1.1": api.ErrForm, "GET /a\tb HTTP/1.1": api.ErrForm, "GET \t/ HTTP/1.1": api.ErrForm, "GET http://a/ HTTP/1.1": api.ErrForm,
		"GET x HTTP/2": api.ErrForm, "GET  ": api.ErrForm, "GET \\ HTTP/1.1": api.ErrForm, "GET /\t HTTP/2": api.ErrForm,
		// The version.
		"GET / HTTP/2": api.ErrKind, "GET / HTTP/1.2": api.ErrKind, "GET / HTTP/0.9": api.ErrKind, "GET / HTTP/1": api.ErrKind, "GET / HTTP/1.": api.ErrKind,
		"GET / http/1.1": api.ErrKind, "GET / Http/1.0": api.ErrKind, "GET / HTTP/1.10": api.ErrKind, "GET / HTTP/1.01": api.ErrKind,
		"GET / HTTP/1.1\t": api.ErrKind, "GET / \tHTTP/1.1": api.ErrKind, "GET / HTTP/11": api.ErrKind, "GET / HTTP/1.1x": api.ErrKind,
		"GET / xHTTP/1.1": api.ErrKind, "GET / HTTPS/1.1": api.ErrKind, "GET / HTTP/1,1": api.ErrKind, "GET / /": api.ErrKind, "GET / HTTP/2.0": api.ErrKind,
	} {
		fails(t, line+"\r\n", "", code)
		fails(t, "\r\n"+line+"\r\n", "", code)
		fails(t, get+"\r\n"+line+"\r\n", getText, code)
		open(t, line+"\r", "")
	}
	open(t, "GET / HTTP/1.1\r\n", "")
	open(t, "GET / HTTP/1.0\r\n", "")
}

func TestEachByteOfAFirstLine(t *testing.T) {
	for n := range 256 {
		c := string([]byte{byte(n)})
		if strings.Contains("\r\n", c) {
			continue
		}
		for _, line := range []string{"G" + c + "T / HTTP/1.1", c + " / HTTP/1.1", "GET /" + c + " HTTP/1.1", "GET " + c + " HTTP/1.1", "GET / HTTP/1." + c} {
			in := line + "\r\nHost: a\r\n\r\n"
			check(t, in, plain(in))
		}
	}
}

func TestLongFirstLine(t *testing.T) {
	fit := api.MaxLine - len("GET / HTTP/1.1")
	target := "/" + strings.Repeat("x", fit)
	over(t, "GET "+target+" HTTP/1.1\r\nHost: a\r\n\r\n", headText("GET", target, 1, 0, "Host: a")+endText)
	method := "GET" + strings.Repeat("T", fit)
	over(t, method+" / HTTP/1.0\r\n\r\n", headText(method, "/", 0, 0)+endText)
	open(t, strings.Repeat(" ", api.MaxLine)+"\r", "")
	fails(t, strings.Repeat(" ", api.MaxLine)+"\r\n", "", api.ErrForm)
	fails(t, "GET "+target+"x HTTP/1.1", "", api.ErrLong)
	fails(t, strings.Repeat("x", api.MaxLine+1), "", api.ErrLong)
}

// trailer: n fields, one a line.
func trailer(n int) string {
	s := ""
	for i := range n {
		s += fmt.Sprintf("Name-%d: value %d\r\n", i, i)
	}
	return s
}

func TestManyFields(t *testing.T) {
	for n := range api.MaxFields {
		open(t, get+trailer(n), "")
		texts := append([]string{"Host: a"}, strings.Split(trailer(n), "\r\n")[:n]...)
		over(t, get+trailer(n)+"\r\n", headText("GET", "/", 1, 0, texts...)+endText)
	}
	full := get + trailer(api.MaxFields-1)
	fails(t, full+"a: b\r\n", "", api.ErrMany)
	fails(t, get+"\r\n"+full+"a: b\r\n", getText, api.ErrMany)
	open(t, full+"a: b\r", "")
	fails(t, first+trailer(api.MaxFields)+"Host: a\r\n", "", api.ErrMany)
	fails(t, first+trailer(api.MaxFields)+"\r\n", "", api.ErrHost)
	fails(t, "GET / HTTP/1.0\r\n"+strings.Repeat("a:\r\n", api.MaxFields+1), "", api.ErrMany)
	// It is named ahead of what fields.Parse tells.
	for _, line := range []string{"x", ":", strings.Repeat("n", api.MaxName+1) + ":", " "} {
		fails(t, full+line+"\r\n", "", api.ErrMany)
	}
}

func TestLineThatIsNoField(t *testing.T) {
	for line, code := range map[string]int{
		"x": api.ErrForm, " ": api.ErrForm, "\t": api.ErrForm, "GET / HTTP/1.1": api.ErrForm, "a b": api.ErrForm, " x": api.ErrForm,
		":": api.ErrName, ":b": api.ErrName, "a :b": api.ErrName, " a:b": api.ErrName, "a b:c": api.ErrName, "\xff:b": api.ErrName,
		"Content-Length : 1": api.ErrName, "\tHost: a": api.ErrName, strings.Repeat("n", api.MaxName+1) + ":": api.ErrLong,
	} {
		for _, ahead := range []string{first, get, get + "a: b\r\n", get + trailer(api.MaxFields-2), "GET / HTTP/1.0\r\n"} {
			fails(t, ahead+line+"\r\n", "", code)
		}
		fails(t, get+"\r\n"+first+line+"\r\n", getText, code)
	}
	for _, line := range []string{"a: b: c", "a: ", "0: ", strings.Repeat("n", api.MaxName) + ": ", "a: \xff", "a: x\ty", "a: " + strings.Repeat("v", api.MaxLine-3)} {
		over(t, get+line+"\r\n\r\n", headText("GET", "/", 1, 0, "Host: a", line)+endText)
	}
}

func TestCodesOfLinesAtEachPlace(t *testing.T) {
	full := strings.Repeat("1", api.MaxLine)
	post := get + "Transfer-Encoding: chunked\r\n\r\n"
	text := headText("GET", "/", 1, -1, "Host: a", "Transfer-Encoding: chunked")
	for _, place := range []struct{ ahead, events string }{
		{"", ""},
		{"\r\n\r\n", ""},
		{get + "\r\n", getText},
		{get + "\r\n\r\n", getText},
		{get + "Content-Length: 1\r\n\r\n\n", headText("GET", "/", 1, 1, "Host: a", "Content-Length: 1") + bodyText("\n") + endText},
		{first, ""},
		{get, ""},
		{get + trailer(api.MaxFields-1), ""},
		{post, text},
		{post + "1\r\na", text + bodyText("a")},
		{post + "1\r\na\r\n", text + bodyText("a")},
		{post + "0\r\n", text},
		{post + "0\r\na: b\r\n", text},
		{post + "1\r\na\r\n0\r\n\r\n", text + bodyText("a") + endText},
	} {
		open(t, place.ahead+full, place.events)
		open(t, place.ahead+full+"\r", place.events)
		fails(t, place.ahead+full+"1", place.events, api.ErrLong)
		for _, line := range []string{"", "1", "a: b", "GET / HTTP/1.1", full} {
			fails(t, place.ahead+line+"\n", place.events, api.ErrLine)
			fails(t, place.ahead+line+"\r\r", place.events, api.ErrLine)
			fails(t, place.ahead+line+"\r1", place.events, api.ErrLine)
			fails(t, place.ahead+line+"\r\x00", place.events, api.ErrLine)
			for _, c := range "\x00\x01\x08\x0b\x1f\x7f" {
				fails(t, place.ahead+line+string(c), place.events, api.ErrChar)
			}
		}
	}
}

func TestHost(t *testing.T) {
	zero := "GET / HTTP/1.0\r\n"
	fails(t, first+"\r\n", "", api.ErrHost)
	fails(t, first+"Hos: a\r\nHosts: a\r\nX-Host: a\r\n\r\n", "", api.ErrHost)
	over(t, zero+"\r\n", headText("GET", "/", 0, 0)+endText)
	for _, name := range []string{"Host", "host", "HOST", "hOSt"} {
		over(t, first+name+": a\r\n\r\n", headText("GET", "/", 1, 0, name+": a")+endText)
		over(t, zero+name+": a\r\n\r\n", headText("GET", "/", 0, 0, name+": a")+endText)
		for _, value := range []string{"a", "b", ""} {
			fails(t, get+name+": "+value+"\r\n\r\n", "", api.ErrHost)
			fails(t, zero+"Host: a\r\n"+name+": "+value+"\r\n\r\n", "", api.ErrHost)
			fails(t, get+"x: y\r\n"+name+":"+value+"\r\nhost:\r\n\r\n", "", api.ErrHost)
		}
	}
	// It is named ahead of what the length comes to.
	for _, line := range []string{"Content-Length: x", "Content-Length: 4001", "Transfer-Encoding: gzip", "Content-Length: 1\r\nTransfer-Encoding: chunked"} {
		fails(t, first+line+"\r\n\r\n", "", api.ErrHost)
		fails(t, get+"Host: a\r\n"+line+"\r\n\r\n", "", api.ErrHost)
	}
}

func TestTransferEncoding(t *testing.T) {
	zero := "GET / HTTP/1.0\r\nHost: a\r\n"
	for _, line := range []string{"Transfer-Encoding: chunked", "transfer-encoding: Chunked", "TRANSFER-ENCODING: CHUNKED", "Transfer-Encoding: cHuNkEd"} {
		text := headText("GET", "/", 1, -1, "Host: a", line)
		open(t, get+line+"\r\n\r\n", text)
		over(t, get+line+"\r\n\r\n0\r\n\r\n", text+endText)
		over(t, get+line+"\r\n\r\n1\r\na\r\n2;x\r\nbc\r\n0\r\n\r\n", text+bodyText("abc")+endText)
		for _, length := range []string{"1", "0", "x", "4001", "", "5\r\nContent-Length: 6"} {
			fails(t, get+line+"\r\nContent-Length: "+length+"\r\n\r\n", "", api.ErrLength)
			fails(t, get+"content-length: "+length+"\r\n"+line+"\r\n\r\n", "", api.ErrLength)
		}
		fails(t, zero+line+"\r\n\r\n", "", api.ErrLength)
		fails(t, zero+line+"\r\nContent-Length: 1\r\n\r\n", "", api.ErrLength)
		fails(t, get+line+"\r\n"+line+"\r\n\r\n", "", api.ErrKind)
		fails(t, get+line+"\r\nTransfer-Encoding: gzip\r\n\r\n", "", api.ErrKind)
		fails(t, get+"Transfer-Encoding: gzip\r\n"+line+"\r\n\r\n", "", api.ErrKind)
		// ErrLength is named ahead of ErrKind.
		fails(t, get+line+"\r\n"+line+"\r\nContent-Length: 1\r\n\r\n", "", api.ErrLength)
		fails(t, zero+line+"\r\n"+line+"\r\n\r\n", "", api.ErrLength)
	}
	for _, value := range []string{"gzip", "", "gzip, chunked", "chunked, gzip", "chunked,", "chunke", "chunkedd", "x chunked", "identity", "\"chunked\"",
		"chunked;a=b", "chun\u212aed", "c h", "chunked\xff"} {
		fails(t, get+"Transfer-Encoding: "+value+"\r\n\r\n", "", api.ErrKind)
		fails(t, get+"Transfer-Encoding: "+value+"\r\nContent-Length: 1\r\n\r\n", "", api.ErrLength)
		fails(t, zero+"Transfer-Encoding: "+value+"\r\n\r\n", "", api.ErrLength)
	}
}

func TestContentLength(t *testing.T) {
	for text, n := range map[string]int{"1": 1, "01": 1, "000000002": 2, "9": 9, "10": 10, "300": 300, "4000": 4000, "000004000": 4000, "3999": 3999} {
		head := headText("GET", "/", 1, n, "Host: a", "Content-Length: "+text)
		body := many(n)
		in := get + "Content-Length: " + text + "\r\n\r\n" + body
		over(t, in, head+bodyText(body)+endText)
		over(t, in+get+"\r\n", head+bodyText(body)+endText+getText)
		events := head
		if n > 1 {
			events += bodyText(body[:n-1])
		}
		open(t, in[:len(in)-1], events)
		open(t, in+"\r", head+bodyText(body)+endText)
		twice := get + "Content-Length: " + text + "\r\ncontent-length:" + text + "\r\n\r\n"
		over(t, twice+body, headText("GET", "/", 1, n, "Host: a", "Content-Length: "+text, "content-length: "+text)+bodyText(body)+endText)
	}
	for _, text := range []string{"", "x", "+1", "-1", "1 1", "1,1", "1.0", "0x1", "1a", "a1", "0000000001", "1000000000", "\xff", "1;", "\u0661", strings.Repeat("0", 100)} {
		fails(t, get+"Content-Length: "+text+"\r\n\r\n", "", api.ErrNumber)
		fails(t, get+"Content-Length: 1\r\nContent-Length: "+text+"\r\n\r\n", "", api.ErrNumber)
		fails(t, get+"Content-Length: "+text+"\r\nContent-Length: 1\r\n\r\n", "", api.ErrNumber)
		fails(t, get+"Content-Length: 4001\r\nContent-Length: "+text+"\r\n\r\n", "", api.ErrNumber)
		fails(t, "GET / HTTP/1.0\r\nContent-Length: "+text+"\r\nContent-Length: "+text+"\r\n\r\n", "", api.ErrNumber)
		// Of each in order: the second one is not the first, ahead of the third.
		fails(t, get+"Content-Length: 1\r\nContent-Length: 2\r\nContent-Length: "+text+"\r\n\r\n", "", api.ErrLength)
	}
	for _, text := range []string{"4001", "9999", "999999999", "000004001"} {
		fails(t, get+"Content-Length: "+text+"\r\n\r\n", "", api.ErrLong)
		fails(t, get+"Content-Length: "+text+"\r\nContent-Length: "+text+"\r\n\r\n", "", api.ErrLong)
		fails(t, get+"Content-Length: "+text+"\r\nContent-Length: 1\r\n\r\n", "", api.ErrLength)
		fails(t, get+"Content-Length: 1\r\nContent-Length: "+text+"\r\n\r\n", "", api.ErrLength)
	}
	for _, pair := range [][2]string{{"1", "2"}, {"1", "01"}, {"01", "1"}, {"0", "00"}, {"0", "1"}, {"4000", "04000"}} {
		fails(t, get+"Content-Length: "+pair[0]+"\r\nx: y\r\nContent-LENGTH: "+pair[1]+"\r\n\r\n", "", api.ErrLength)
		fails(t, get+"Content-Length: "+pair[0]+"\r\nContent-Length: "+pair[0]+"\r\nContent-Length: "+pair[1]+"\r\n\r\n", "", api.ErrLength)
		fails(t, "GET / HTTP/1.0\r\nContent-Length: "+pair[0]+"\r\nContent-Length: "+pair[1]+"\r\n\r\n", "", api.ErrLength)
	}
}

func TestBodyOfTheLengthZero(t *testing.T) {
	for _, text := range []string{"0", "00", "000000000"} {
		head := headText("GET", "/", 1, 0, "Host: a", "Content-Length: "+text)
		in := get + "Content-Length: " + text + "\r\n\r\n"
		over(t, in, head+endText)
		over(t, in+in+get+"\r\n", head+endText+head+endText+getText)
		open(t, in+"a", head+endText)
		fails(t, in+"\n", head+endText, api.ErrLine)
	}
	over(t, get+"Contents-Length: 5\r\n\r\n", headText("GET", "/", 1, 0, "Host: a", "Contents-Length: 5")+endText)
}

// Within a body each byte is one of it, whatever it would be in a line.
func TestBytesOfABody(t *testing.T) {
	for _, body := range []string{"\r", "\n", "\x00", "\r\n", "\n\r", "\r\n\r\n", get + "\r\n", "0\r\n\r\n", "\x7f\xff", strings.Repeat("x", api.MaxLine+1)} {
		text := fmt.Sprintf("Content-Length: %d", len(body))
		over(t, get+text+"\r\n\r\n"+body, headText("GET", "/", 1, len(body), "Host: a", text)+bodyText(body)+endText)
	}
	for n := range 256 {
		c := string([]byte{byte(n)})
		text := headText("GET", "/", 1, 1, "Host: a", "Content-Length: 1") + bodyText(c) + endText
		over(t, get+"Content-Length: 1\r\n\r\n"+c+"\r\n", text)
		chunked := headText("GET", "/", 1, -1, "Host: a", "Transfer-Encoding: chunked") + bodyText(c+c) + endText
		over(t, get+"Transfer-Encoding: chunked\r\n\r\n2\r\n"+c+c+"\r\n0\r\n\r\n", chunked)
	}
}

func TestBodyInChunks(t *testing.T) {
	ahead := get + "Transfer-Encoding: chunked\r\n\r\n"
	text := headText("GET", "/", 1, -1, "Host: a", "Transfer-Encoding: chunked")
	in := "2\r\nab\r\n3;x=y\r\n\r\nc\r\n0\r\nHost: z\r\nContent-Length: 5\r\n\r\n"
	for n := range len(in) {
		got := whole(ahead + in[:n])
		if !got.busy || got.dead || strings.Contains(got.events, endText) {
			t.Errorf("%q in chunks: %v", in[:n], got)
		}
	}
	over(t, ahead+in, text+bodyText("ab\r\nc")+endText)
	over(t, ahead+in+get+"\r\n", text+bodyText("ab\r\nc")+endText+getText)
	over(t, ahead+"0\r\n"+trailer(api.MaxFields)+"\r\n", text+endText)
	full := "fa0\r\n" + many(api.MaxBody) + "\r\n"
	over(t, ahead+full+"0\r\n\r\n", text+bodyText(many(api.MaxBody))+endText)
	for _, came := range []struct{ in, body string }{{"", ""}, {"2\r\nab\r\n", "ab"}, {"1\r\n\n\r\n1\r\nb\r\n", "\nb"}} {
		events := text
		if came.body != "" {
			events += bodyText(came.body)
		}
		open(t, ahead+came.in, events)
		for bad, code := range map[string]int{
			"\n": api.ErrLine, "\x00": api.ErrChar, strings.Repeat("0", api.MaxLine+1): api.ErrLong, "\r\n": api.ErrNumber, "x\r\n": api.ErrNumber,
			"fa1\r\n": api.ErrLong, "ffffff\r\n": api.ErrLong, "0\r\n" + trailer(api.MaxFields+1): api.ErrMany, "0\r\nx\r\n": api.ErrForm,
			"0\r\n:\r\n": api.ErrName, "0\r\n" + strings.Repeat("n", api.MaxName+1) + ":\r\n": api.ErrLong,
		} {
			fails(t, ahead+came.in+bad, events, code)
		}
		fails(t, ahead+came.in+"1\r\ncd\r\n", text+bodyText(came.body+"c"), api.ErrForm)
		fails(t, ahead+came.in+"1\r\nc\n", text+bodyText(came.body+"c"), api.ErrLine)
	}
	fails(t, ahead+full+"1\r\n", text+bodyText(many(api.MaxBody)), api.ErrLong)
}

// The document's example: nothing more is read on that connection.
func TestTwoLengthsOfOneBody(t *testing.T) {
	for _, lines := range []string{"Content-Length: 5\r\nContent-Length: 6\r\n", "Content-Length: 5\r\nTransfer-Encoding: chunked\r\n"} {
		fails(t, get+lines+"\r\n", "", api.ErrLength)
		check(t, get+lines+"\r\n0\r\n\r\n"+get+"\r\n", outcome{failText(api.ErrLength), false, true})
	}
}

// plainLine reads a line from the front of in: it, and what stands behind it.
func plainLine(in string) (line, rest string, ok bool, code int) {
	l := lines.New()
	for i := range len(in) {
		if line, ok, code = l.Feed(in[i]); ok || code != 0 {
			return line, in[i+1:], ok, code
		}
	}
	return "", "", false, 0
}

func plainFirst(line string) (h api.Head, code int) {
	l := strings.Split(line, " ")
	switch {
	case len(l) != 3:
		return h, api.ErrForm
	case l[0] == "" || strings.Trim(l[0], "!#$%&'*+-.^_`|~0123456789abcdefghijklmnopqrstuvwxyzABCDEFGHIJKLMNOPQRSTUVWXYZ") != "":
		return h, api.ErrName
	case l[1] == "" || l[1][0] != '/' || strings.Contains(l[1], "\t"):
		return h, api.ErrForm
	}
	h = api.Head{Method: l[0], Target: l[1]}
	switch l[2] {
	case "HTTP/1.1":
		h.Minor = 1
	case "HTTP/1.0":
	default:
		code = api.ErrKind
	}
	return h, code
}

func plainLength(h *api.Head) int {
	var hosts, lengths, codings []string
	for _, f := range h.Fields {
		switch strings.ToLower(f.Name) {
		case "host":
			hosts = append(hosts, f.Value)
		case "content-length":
			lengths = append(lengths, f.Value)
		case "transfer-encoding":
			codings = append(codings, f.Value)
		}
	}
	if len(hosts) > 1 || len(hosts) == 0 && h.Minor == 1 {
		return api.ErrHost
	}
	if len(codings) > 0 {
		h.Length = -1
		switch {
		case len(lengths) > 0, h.Minor == 0:
			return api.ErrLength
		case len(codings) > 1, strings.ToLower(codings[0]) != "chunked":
			return api.ErrKind
		}
		return 0
	}
	for _, s := range lengths {
		if s == "" || len(s) > 9 || strings.Trim(s, "0123456789") != "" {
			return api.ErrNumber
		}
		if s != lengths[0] {
			return api.ErrLength
		}
		fmt.Sscanf(s, "%d", &h.Length)
	}
	if h.Length > api.MaxBody {
		return api.ErrLong
	}
	return 0
}

func plainBody(in string, length int) (body, rest string, over bool, code int) {
	if length >= 0 {
		n := min(length, len(in))
		return in[:n], in[n:], n == length, 0
	}
	c := chunks.New()
	for i := range len(in) {
		came, over, code := c.Feed(in[i])
		body += string(came)
		if over || code != 0 {
			return body, in[i+1:], over, code
		}
	}
	return body, "", false, 0
}

// plain reads all that came from the front, as the chapter tells it.
func plain(in string) outcome {
	out := ""
	var code int
	fail := func() outcome { return outcome{out + failText(code), false, true} }
	for in != "" {
		var h api.Head
		var texts []string
		for begun := false; ; {
			line, rest, ok, bad := plainLine(in)
			if code = bad; code != 0 {
				return fail()
			}
			if !ok {
				return outcome{out, begun || in != "", false}
			}
			in = rest
			switch {
			case line == "" && begun:
				code = plainLength(&h)
			case line == "":
				continue
			case !begun:
				h, code = plainFirst(line)
			case len(h.Fields) == api.MaxFields:
				code = api.ErrMany
			default:
				var f api.Field
				f, code = fields.Parse(line)
				h.Fields, texts = append(h.Fields, f), append(texts, f.Name+": "+f.Value)
			}
			if code != 0 {
				return fail()
			}
			if begun && line == "" {
				break
			}
			begun = true
		}
		out += headText(h.Method, h.Target, h.Minor, h.Length, texts...)
		body, rest, over, bad := plainBody(in, h.Length)
		if body != "" {
			out += bodyText(body)
		}
		if code = bad; code != 0 {
			return fail()
		}
		if !over {
			return outcome{out, true, false}
		}
		out, in = out+endText, rest
	}
	return outcome{out, false, false}
}

// texts: all of at most most of the pieces, one behind the other.
func texts(pieces []string, most int) []string {
	l := []string{""}
	for from, n := 0, 0; n < most; n++ {
		to := len(l)
		for _, s := range slices.Clone(l[from:to]) {
			for _, p := range pieces {
				l = append(l, s+p)
			}
		}
		from = to
	}
	return l
}

// against holds the program against the chapter as plain tells it.
func against(t *testing.T, in string) {
	want := plain(in)
	for _, got := range []outcome{whole(in), pieces(in, 1)} {
		if got != want {
			t.Helper()
			t.Errorf("%q:\n%s %v %v, want\n%s %v %v", in, got.events, got.busy, got.dead, want.events, want.busy, want.dead)
		}
	}
}

func TestAllShortTexts(t *testing.T) {
	for _, in := range texts([]string{"G", " ", "/", "\t", "HTTP/1.1", "HTTP/1.0", ":"}, 5) {
		against(t, in+"\r\nHost:a\r\n\r\n")
	}
	for _, in := range texts([]string{"G / HTTP/1.1\r\n", "P /a HTTP/1.0\r\n", "host:b\r\n", "content-length:2\r\n", "\r\n", "\r", "ab"}, 5) {
		against(t, in)
	}
	for _, in := range texts([]string{
		"Host: a\r\n", "Content-Length: 1\r\n", "Content-Length: 01\r\n", "Content-Length: x\r\n", "Content-Length: 4001\r\n",
		"Transfer-Encoding: CHUNKED\r\n", "Transfer-Encoding: gzip\r\n", "Content-Length: 0\r\n",
	}, 3) {
		against(t, "G / HTTP/1.0\r\n"+in+"\r\n0\r\n\r\n")
		against(t, get+in+"\r\n0\r\n\r\n")
		against(t, first+in+"\r\n")
	}
	for _, in := range texts([]string{"1\r\n", "0\r\n", "\r\n", "a", "b:c\r\n", "\n"}, 5) {
		against(t, get+"Transfer-Encoding: chunked\r\n\r\n"+in)
	}
}

func TestTwoReadersAreApart(t *testing.T) {
	one, two := New(), New()
	ins := []string{
		get + "Content-Length: 3\r\n\r\nabc" + get + "\r\n",
		"\r\nPUT /x HTTP/1.0\r\nX: y\r\n\r\nPOST /y HTTP/1.1\r\nHost: b\r\nTransfer-Encoding: chunked\r\n\r\n2\r\nxy\r\n0\r\n\r\nbad\r\n",
	}
	var got [2][]api.Event
	for i := range max(len(ins[0]), len(ins[1])) {
		for j, p := range []*Parser{one, two} {
			if i < len(ins[j]) {
				got[j] = append(got[j], p.Feed([]byte{ins[j][i]})...)
			}
		}
	}
	for j, p := range []*Parser{one, two} {
		if s := stand(p, Join(got[j])); s != plain(ins[j]) {
			t.Errorf("reader %d of two by turns: %v", j, s)
		}
	}
	if one.Dead() || !two.Dead() {
		t.Errorf("one fails, and not the other: %v, %v", one.Dead(), two.Dead())
	}
	over(t, get+"\r\n", getText)
}

// What is handed in stays as it is, also behind its length, and is not kept.
func TestFeedLeavesWhatIsHandedIn(t *testing.T) {
	in := get + "Content-Length: 4\r\n\r\nabcd"
	for cut := range len(in) + 1 {
		p := New()
		memory := []byte(in + "\n\n\n")
		ahead := p.Feed(memory[:cut])
		if string(memory) != in+"\n\n\n" {
			t.Fatalf("what was handed in became %q", memory)
		}
		clear(memory)
		l := append(ahead, p.Feed([]byte(in[cut:]))...)
		if got := stand(p, Join(l)); got != plain(in) {
			t.Errorf("cut at %d: what was handed in is kept: %v", cut, got)
		}
	}
}

// What was answered is the caller's: neither does what comes later change it,
// nor does it change what is read.
func TestAnswersStayAsTheyWere(t *testing.T) {
	p := New()
	head := p.Feed([]byte(get + "Content-Length: 6\r\n\r\n"))
	one := p.Feed([]byte("ab"))
	two := p.Feed([]byte("cd"))
	head[0].Head.Fields[0] = api.Field{Name: "changed"}
	head[0].Head.Fields = append(head[0].Head.Fields, api.Field{Name: "more"})
	one[0].Bytes = append(one[0].Bytes, "xyz"...)
	clear(two[0].Bytes)
	rest := p.Feed([]byte("ef" + get + "\r\n"))
	again := p.Feed([]byte(get + "\r\n"))
	if show(one) != bodyText("abxyz") || show(rest) != bodyText("ef")+endText+getText || show(again) != getText {
		t.Errorf("answers share their memory: %s, %s, %s", show(one), show(rest), show(again))
	}
	// Nor do two lists of one answer share any.
	l := New().Feed([]byte(strings.Repeat(get+"Content-Length: 2\r\n\r\nab", 2)))
	fields := append(l[0].Head.Fields, api.Field{Name: "x"}, api.Field{Name: "y"})
	fields[0].Name = "changed"
	clear(append(l[1].Bytes, "changed"...))
	head3 := headText("GET", "/", 1, 2, "Host: a", "Content-Length: 2")
	if got := show(l[3:]); got != head3+bodyText("ab")+endText {
		t.Errorf("two lists of one answer share their memory: %s", got)
	}
}

func body(s string) api.Event { return api.Event{Kind: api.EBody, Bytes: []byte(s)} }

func TestJoin(t *testing.T) {
	head := api.Event{Kind: api.EHead, Head: api.Head{Method: "GET", Target: "/", Minor: 1, Fields: []api.Field{{Name: "Host", Value: "a"}}}}
	end := api.Event{Kind: api.EEnd}
	fail := api.Event{Kind: api.EFail, Code: api.ErrForm}
	headed := headText("GET", "/", 1, 0, "Host: a")
	for _, c := range []struct {
		l    []api.Event
		want string
	}{
		{nil, ""},
		{[]api.Event{}, ""},
		{[]api.Event{end}, endText},
		{[]api.Event{end, end}, endText + endText},
		{[]api.Event{head, head, fail, fail}, headed + headed + failText(api.ErrForm) + failText(api.ErrForm)},
		{[]api.Event{body("a")}, bodyText("a")},
		{[]api.Event{body("")}, bodyText("")},
		{[]api.Event{body("ab"), body("c")}, bodyText("abc")},
		{[]api.Event{body(""), body("")}, bodyText("")},
		{[]api.Event{body(""), body("x"), body(""), body("yz"), body("")}, bodyText("xyz")},
		{[]api.Event{body("a"), end, body("b")}, bodyText("a") + endText + bodyText("b")},
		{[]api.Event{head, body("a"), body("b"), end, head, body("c"), body("d"), fail}, headed + bodyText("ab") + endText + headed + bodyText("cd") + failText(api.ErrForm)},
		{[]api.Event{body("b"), body("a"), head, body("c")}, bodyText("ba") + headed + bodyText("c")},
	} {
		if got := show(Join(c.l)); got != c.want {
			t.Errorf("Join of %v: %s, want %s", c.l, got, c.want)
		}
		if got := show(Join(Join(c.l))); got != c.want {
			t.Errorf("Join of Join of %v: %s, want %s", c.l, got, c.want)
		}
	}
}

// full: an event that has all that one may have.
func full(kind int) api.Event {
	return api.Event{
		Kind: kind, Code: 7, Bytes: []byte("bytes"),
		Head: api.Head{Method: "m", Target: "t", Minor: 3, Fields: []api.Field{{Name: "n", Value: "v"}, {Name: "o", Value: "w"}}, Length: 9},
		Part: api.Part{Name: "p", File: "f", Type: "y", Bytes: []byte("part")},
	}
}

// Events of other kinds, also of forms and of none, stay as they are, whatever
// they have, beside bodies, too.
func TestJoinOfOtherKinds(t *testing.T) {
	for _, kind := range otherKinds() {
		l := []api.Event{full(kind), full(kind), body("a"), body("b"), full(kind)}
		want := []api.Event{full(kind), full(kind), body("ab"), full(kind)}
		if got := Join(l); fmt.Sprint(got) != fmt.Sprint(want) {
			t.Errorf("kind %d: %v, want %v", kind, got, want)
		}
	}
}

func otherKinds() []int {
	return []int{0, api.EHead, api.EEnd, api.EFail, api.EPart, api.EOver, 7, -1}
}

// bodies: events with bytes of a body and each of what else an event may have.
func bodies() []api.Event {
	all := full(api.EBody)
	return []api.Event{
		all, {Kind: api.EBody, Code: 5}, {Kind: api.EBody, Code: -1, Bytes: []byte("ab")},
		{Kind: api.EBody, Head: all.Head}, {Kind: api.EBody, Bytes: []byte("ab"), Head: api.Head{Method: "GET"}},
		{Kind: api.EBody, Head: api.Head{Target: "/"}}, {Kind: api.EBody, Head: api.Head{Minor: 1}}, {Kind: api.EBody, Head: api.Head{Length: -1}},
		{Kind: api.EBody, Head: api.Head{Fields: []api.Field{{}}}},
		{Kind: api.EBody, Part: all.Part}, {Kind: api.EBody, Bytes: []byte("ab"), Part: api.Part{Name: "n"}},
		{Kind: api.EBody, Part: api.Part{File: "f"}}, {Kind: api.EBody, Part: api.Part{Type: "y"}}, {Kind: api.EBody, Part: api.Part{Bytes: []byte("c")}},
		body(""), body("ab"),
	}
}

// A body with no other beside it stays as it is, whatever it has.
func TestJoinOfABodyAlone(t *testing.T) {
	for _, e := range bodies() {
		if got := Join([]api.Event{e}); fmt.Sprint(got) != fmt.Sprint([]api.Event{e}) {
			t.Errorf("%v alone: %v", e, got)
		}
		for _, kind := range otherKinds() {
			o := full(kind)
			for _, l := range [][]api.Event{{o, e}, {e, o}, {o, e, o}, {e, o, e}, {e, o, o, e, o, e}} {
				if got := Join(l); fmt.Sprint(got) != fmt.Sprint(l) {
					t.Errorf("Join of %v: %v", l, got)
				}
			}
			// One that is alone, ahead of those that are joined and behind them.
			l := []api.Event{e, o, e, e, o, e}
			want := []api.Event{e, o, body(strings.Repeat(string(e.Bytes), 2)), o, e}
			if got := Join(l); fmt.Sprint(got) != fmt.Sprint(want) {
				t.Errorf("Join of %v: %v, want %v", l, got, want)
			}
		}
	}
}

// Of bodies that stand one behind the other nothing but bytes is left,
// whichever of them has more, and also if some have no bytes.
func TestJoinOfBodiesWithMore(t *testing.T) {
	for _, a := range bodies() {
		for _, b := range bodies() {
			if got := show(Join([]api.Event{a, b})); got != bodyText(string(a.Bytes)+string(b.Bytes)) {
				t.Errorf("%v and %v: %s", a, b, got)
			}
			for _, c := range bodies() {
				if got := show(Join([]api.Event{a, b, c})); got != bodyText(string(a.Bytes)+string(b.Bytes)+string(c.Bytes)) {
					t.Errorf("%v, %v and %v: %s", a, b, c, got)
				}
			}
		}
	}
	if got := show(Join(bodies())); got != bodyText("bytesabababab") {
		t.Errorf("all bodies: %s", got)
	}
}

func TestJoinLeavesWhatIsHandedIn(t *testing.T) {
	memory := []byte("abcdef")
	l := []api.Event{
		{Kind: api.EBody, Bytes: memory[:2]}, {Kind: api.EBody, Bytes: memory[4:5]}, full(api.EHead), full(api.EPart), full(api.EBody), body("last"),
	}
	before := fmt.Sprint(l)
	got := Join(l[:5])
	if fmt.Sprint(l) != before || string(memory) != "abcdef" {
		t.Errorf("what was handed in became %v, %q", l, memory)
	}
	want := fmt.Sprint([]api.Event{body("abe"), full(api.EHead), full(api.EPart), full(api.EBody)})
	clear(memory)
	for _, e := range l {
		clear(e.Bytes)
		clear(e.Part.Bytes)
		clear(e.Head.Fields)
	}
	clear(l)
	if fmt.Sprint(got) != want {
		t.Errorf("Join shares memory with what was handed in: %v", got)
	}
	clear(append(got[0].Bytes, "more"...))
	clear(append(got[1].Bytes, "more"...))
	got[1].Head.Fields = append(got[1].Head.Fields, api.Field{})
	clear(got[1].Head.Fields)
	if fmt.Sprint(got[2:]) != fmt.Sprint([]api.Event{full(api.EPart), full(api.EBody)}) {
		t.Errorf("events of one answer share memory: %v", got)
	}
}

// P1: were what is joined copied anew with each event, or what came read anew
// with each byte, this would not end in time.
func TestMuch(t *testing.T) {
	const n = 1 << 18
	piece := many(64)
	l := make([]api.Event, n)
	for i := range l {
		l[i] = body(piece)
	}
	if got := Join(l); len(got) != 1 || len(got[0].Bytes) != len(piece)*n {
		t.Errorf("Join of much: %d events", len(got))
	}
	p := New()
	in := strings.Repeat("\r\n", n)
	if l := p.Feed([]byte(in)); len(l) > 0 || p.Busy() || p.Dead() {
		t.Errorf("empty lines: %d events", len(l))
	}
	in = strings.Repeat(get+"Content-Length: 1\r\n\r\na", n>>4)
	if l := p.Feed([]byte(in)); len(l) != 3*(n>>4) {
		t.Errorf("many requests: %d events", len(l))
	}
	if l := p.Feed([]byte("\n" + in)); len(l) != 1 {
		t.Errorf("behind a code: %d events", len(l))
	}
	for range n {
		p.Feed([]byte("a"))
	}
}
