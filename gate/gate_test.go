package gate

import (
	"fmt"
	"math"
	"strings"
	"testing"

	"lighterage/api"
	"lighterage/request"
	"lighterage/store"
)

// An upload is created, sent in pieces, asked for, and dropped.
func TestAnUploadInPieces(t *testing.T) {
	g := open()
	head := func(n int) string {
		return tusTold("200 OK", fmt.Sprintf("Upload-Offset: %d", n), "Upload-Length: 5", "Cache-Control: no-store", "Upload-Metadata: m")
	}
	does(t, g, 0, create("Upload-Length: 5", "Upload-Metadata: m"), createdAt(1), "\x05\x02\x02\x06m")
	leaves(t, g, 0, other("HEAD", 1), head(0))
	does(t, g, 0, patch(1, 0, "ab"), offsetAt(2), "\x06\x03\x02\x01ab")
	leaves(t, g, 0, other("HEAD", 1), head(2))
	does(t, g, 0, inChunks("PATCH", "/files/1", []string{"c", "\x00\xff"}, spoken, ofPiece, "Upload-Offset: 2"), offsetAt(5), "\x07\x03\x02\x01c\x00\xff")
	leaves(t, g, 1, other("HEAD", 1), head(5))
	holds(t, "whole", g.Store, "1 5 m: abc\x00\xff")
	leaves(t, g, 0, patch(1, 5, "d"), tusTold("413 Content Too Large"))
	leaves(t, g, 0, patch(1, 4, ""), tusTold("409 Conflict"))
	does(t, g, 2, other("DELETE", 1), tusTold("204 No Content"), "\x04\x05\x02\x01")
	leaves(t, g, 0, other("HEAD", 1), tusTold("404 Not Found"))
	leaves(t, g, 0, ask("OPTIONS", "/files", ""), tusTold("204 No Content", "Tus-Version: 1.0.0", "Tus-Max-Size: 2000", "Tus-Extension: creation,creation-defer-length,termination"))
	leaves(t, g, 0, ask("GET", "/files", ""), tusTold("412 Precondition Failed", "Tus-Version: 1.0.0"))
	busy(t, "all are over", g, "0000")
}

// Each target of uploads goes to them, whatever stands behind its beginning.
func TestTargetsOfUploads(t *testing.T) {
	g := open(unsure)
	for _, target := range []string{"/files/", "/files/2", "/files/01", "/files/form", "/files/../form", "/files//1", "/files/1?x"} {
		for _, method := range []string{"POST", "PATCH", "HEAD", "DELETE", "OPTIONS"} {
			leaves(t, g, 0, ask(method, target, form(file("a", "b")), ofForm, spoken), tusTold("404 Not Found"))
		}
	}
	leaves(t, g, 0, ask("POST", "/files/1", form(file("a", "b")), ofForm, spoken), tusTold("405 Method Not Allowed"))
}

// No other target is anything, whatever the method and the body are.
func TestOtherTargets(t *testing.T) {
	g := open(unsure)
	for _, target := range []string{"/", "//", "/form/", "/form?", "/form?x", "/forms", "/for", "/Form", "/FORM", "//form", "/form/form", "/x/form", "/form\xff", "/form%20",
		"/file", "/filesx", "/files?", "/files?x", "/Files", "/FILES/1", "//files", "//files/1", "/x/files/1", "/form/files/1", "/files%2f1", "/take/1"} {
		for _, method := range []string{"POST", "GET", "PATCH", "HEAD", "DELETE", "OPTIONS", "x"} {
			leaves(t, g, 0, ask(method, target, "", spoken, "Upload-Length: 5"), told(404, ""))
			leaves(t, g, 0, ask(method, target, form(file("a", "b")), ofForm), told(404, ""))
			leaves(t, g, 0, inChunks(method, target, []string{"ab"}), told(404, ""))
		}
	}
}

func TestMethodsOfAForm(t *testing.T) {
	g := open(unsure)
	for _, method := range []string{"GET", "PUT", "PATCH", "HEAD", "DELETE", "OPTIONS", "TRACE", "CONNECT", "post", "Post", "POSTS", "POS", "x"} {
		leaves(t, g, 0, ask(method, "/form", form(file("a", "b")), ofForm), told(405, ""))
		leaves(t, g, 0, ask(method, "/form", "", spoken), told(405, ""))
		leaves(t, g, 0, ask(method, "/form", "no form", "Content-Type: x"), told(405, ""))
	}
	feeds(t, g, 0, postForm(file("a", "b")), told(201, "2 a\n"))
	feeds(t, g, 0, strings.Replace(postForm(file("a", "b")), "HTTP/1.1", "HTTP/1.0", 1), told(201, "3 a\n"))
}

func TestSeveralRequestsInOnePiece(t *testing.T) {
	g := open()
	all := create("Upload-Length: 4") + "\r\n\r\n" + patch(1, 0, "ab") + postForm(file("a", "b"), file("c", "")) + ask("GET", "/", "body") + inChunks("GET", "/form", []string{"b"}) + patch(1, 2, "cd") + other("HEAD", 1)
	want := createdAt(1) + offsetAt(2) + told(201, "2 a\n3 c\n") + told(404, "") + told(405, "") + offsetAt(4) + tusTold("200 OK", "Upload-Offset: 4", "Upload-Length: 4", "Cache-Control: no-store")
	does(t, g, 3, all, want,
		"\x04\x02\x02\x05", "\x06\x03\x02\x01ab",
		"\x0e\x02\x03\x02filename a", "\x05\x03\x03\x01b", "\x0e\x02\x04\x01filename c", "\x04\x03\x04\x01",
		"\x06\x03\x02\x01cd")
	holds(t, "several", g.Store, "1 4 : abcd", "2 1 filename a: b", "3 0 filename c: ")
}

// stream: requests of each kind, the last of which fails.
func stream() string {
	return create("Upload-Defer-Length: 1") + patch(1, 0, "abc") + "\r\n" +
		postForm(file("../a", "bytes\r\n--x"), part("p"), file("", "")) +
		inChunks("PATCH", "/files/1", []string{"d", "ef"}, spoken, ofPiece, "Upload-Offset: 3") +
		ask("GET", "/", "\r\nGET / HTTP/1.1\r\n") + inChunks("POST", "/form", []string{form(file("c", "d"))[:20], form(file("c", "d"))[20:]}, ofForm) +
		ask("PUT", "/form", "") + other("DELETE", 3) + ask("GET", "/", "ab", "Content-Length: 3") + create("Upload-Length: 5")
}

const streamTold = "HTTP/1.1 201 Created\r\nTus-Resumable: 1.0.0\r\nLocation: /files/1\r\nContent-Length: 0\r\n\r\n" +
	"HTTP/1.1 204 No Content\r\nTus-Resumable: 1.0.0\r\nUpload-Offset: 3\r\nContent-Length: 0\r\n\r\n" +
	"HTTP/1.1 201 Created\r\nContent-Length: 11\r\n\r\n2 a\n3 file\n" +
	"HTTP/1.1 204 No Content\r\nTus-Resumable: 1.0.0\r\nUpload-Offset: 6\r\nContent-Length: 0\r\n\r\n" +
	"HTTP/1.1 404 Not Found\r\nContent-Length: 0\r\n\r\n" +
	"HTTP/1.1 201 Created\r\nContent-Length: 4\r\n\r\n4 c\n" +
	"HTTP/1.1 405 Method Not Allowed\r\nContent-Length: 0\r\n\r\n" +
	"HTTP/1.1 204 No Content\r\nTus-Resumable: 1.0.0\r\nContent-Length: 0\r\n\r\n" +
	"HTTP/1.1 400 Bad Request\r\nContent-Length: 0\r\n\r\n"

// piecesOf feeds a text in pieces of that length, till one is refused, and tells
// all that is answered.
func piecesOf(t *testing.T, g *Gate, k int, s string, n int) string {
	t.Helper()
	var out []byte
	for rest := s; rest != ""; {
		m := min(n, len(rest))
		b, code := g.Feed(k, []byte(rest[:m]))
		if code == api.ErrDone {
			break
		}
		if code != 0 {
			t.Fatalf("pieces of %d bytes: the code %d", n, code)
		}
		out, rest = append(out, b...), rest[m:]
	}
	return string(out)
}

// The same bytes whole, and in pieces of each length.
func TestHowBytesFallDoesNotMatter(t *testing.T) {
	whole := open()
	feeds(t, whole, 0, stream(), streamTold)
	holds(t, "whole", whole.Store, "1 -1 : abcdef", "2 10 filename a: bytes\r\n--x", "4 1 filename c: d")
	for n := 1; n <= len(stream()); n++ {
		g := open()
		if got := piecesOf(t, g, n%4, stream(), n); got != streamTold {
			t.Fatalf("pieces of %d bytes: %q, want %q", n, got, streamTold)
		}
		if got, want := state(g.Store), state(whole.Store); got != want {
			t.Fatalf("pieces of %d bytes: %q, want %q", n, short(got), short(want))
		}
		refuses(t, g, n%4, "", api.ErrDone)
	}
}

// One request in many pieces: nothing is done, and nothing answered, ahead of
// its last byte.
func TestNothingAheadOfTheLastByte(t *testing.T) {
	for _, x := range []struct{ text, want string }{
		{postForm(part("p"), file("a", "b")), told(201, "2 a\n")},
		{inChunks("POST", "/form", []string{form(file("a", "b"))}, ofForm), told(201, "2 a\n")},
		{patch(1, 2, "cdefghi"), offsetAt(9)},
		{inChunks("PATCH", "/files/1", []string{"cde", "fghi"}, spoken, ofPiece, "Upload-Offset: 2"), offsetAt(9)},
		{create("Upload-Length: 1"), createdAt(2)},
		{other("DELETE", 1), tusTold("204 No Content")},
		{ask("GET", "/", "abc"), told(404, "")},
	} {
		g := open(unsure)
		was := state(g.Store)
		last := len(x.text) - 1
		for i := range last {
			leaves(t, g, 2, x.text[i:i+1], "")
			busy(t, quote(x.text[:i+1]), g, "0010")
		}
		feeds(t, g, 2, x.text[last:], x.want)
		busy(t, quote(x.text), g, "0000")
		if (state(g.Store) == was) != strings.HasPrefix(x.text, "GET") {
			t.Errorf("%s: %q", quote(x.text), short(state(g.Store)))
		}
	}
}

// Bytes on several connections in turn: none knows of the others.
func TestConnectionsInTurn(t *testing.T) {
	texts := []string{
		postForm(file("a", "one")) + ask("GET", "/", ""),
		create("Upload-Length: 3") + ask("GET", "/form", "abc"),
		inChunks("POST", "/form", []string{form(file("c", "three"))}, ofForm) + "x\r\n",
		ask("PUT", "/x", "abc") + postForm(file("d", "four")),
	}
	for n := 1; n <= 40; n++ {
		b := newBoth(unsure)
		var out [4]string
		rest := [4]string(texts)
		for strings.Join(rest[:], "") != "" {
			for k := range rest {
				m := min(n+k, len(rest[k]))
				out[k] += b.feed(t, k, rest[k][:m])
				rest[k] = rest[k][m:]
			}
		}
		for k, want := range [][]string{{"201", "404"}, {"201", "405"}, {"201", "400"}, {"404", "201"}} {
			var got []string
			for _, x := range strings.Split(out[k], "HTTP/1.1 ")[1:] {
				got = append(got, x[:3])
			}
			if fmt.Sprint(got) != fmt.Sprint(want) {
				t.Errorf("in pieces of %d: %d: %v, want %v", n, k, got, want)
			}
		}
		if got := len(b.g.List()); got != 5 {
			t.Errorf("in pieces of %d: %d uploads", n, got)
		}
	}
}

func TestNoSuchConnection(t *testing.T) {
	g := open(unsure)
	for k := range 4 {
		feeds(t, g, k, "GET / ", "")
	}
	for _, k := range []int{-1, -2, -4, math.MinInt, 4, 5, 8, 1 << 32, math.MaxInt} {
		for _, s := range []string{"", "x", "HTTP/1.1\r\nHost: a\r\n\r\n", "\n", postForm(file("a", "b"))} {
			refuses(t, g, k, s, api.ErrRange)
		}
		was := state(g.Store)
		if code := g.Gone(k); code != api.ErrRange || state(g.Store) != was {
			t.Errorf("Gone(%d): %d", k, code)
		}
		if g.Busy(k) {
			t.Errorf("Busy(%d)", k)
		}
		busy(t, "another one was asked", g, "1111")
	}
	for k := range 4 {
		leaves(t, g, k, "HTTP/1.1\r\nHost: a\r\n\r\n", told(404, ""))
	}
	busy(t, "all are over", g, "0000")
}

func TestNoBytes(t *testing.T) {
	g := open(unsure)
	none := func(k, want int) {
		t.Helper()
		was, wasBusy := state(g.Store), g.Busy(k)
		for _, b := range [][]byte{nil, {}, []byte("x\n")[:0]} {
			if out, code := g.Feed(k, b); len(out) != 0 || code != want || state(g.Store) != was || g.Busy(k) != wasBusy {
				t.Errorf("no bytes on %d: %q, %d", k, out, code)
			}
		}
	}
	none(0, 0)
	feeds(t, g, 0, "\r", "")
	none(0, 0)
	feeds(t, g, 0, "\nGET / HTTP/1.1\r\nHo", "")
	none(0, 0)
	feeds(t, g, 0, "st: a\r\nContent-Length: 2\r\n\r\na", "")
	none(0, 0)
	feeds(t, g, 0, "b", told(404, ""))
	none(0, 0)
	feeds(t, g, 0, "\n", told(400, ""))
	none(0, api.ErrDone)
	none(4, api.ErrRange)
	none(-1, api.ErrRange)
}

// failures: requests that fail; those of the first list with ErrLong.
func failures() (long, others []string) {
	host := "GET / HTTP/1.1\r\nHost: a\r\n"
	chunked := host + "Transfer-Encoding: chunked\r\n\r\n"
	long = []string{
		some(201), "GET /" + some(200), host + "a: " + some(198), host + some(41) + ": b\r\n",
		host + "Content-Length: 4001\r\n\r\n", host + "Content-Length: 999999999\r\n\r\n",
		chunked + "fa1\r\n", chunked + "fa0\r\n" + some(4000) + "\r\n1\r\n", chunked + some(201), chunked + "0\r\n" + some(41) + ": b\r\n",
		patch(1, 2, some(4001)),
	}
	others = []string{
		"\n", "\rx", "\x00", "\x7f", "x\r\n", "GET /\r\n", "G@T / HTTP/1.1\r\n", "GET x HTTP/1.1\r\n", "GET / HTTP/2.0\r\n", "GET / HTTP/1.1\r\n\r\n",
		host + "host: b\r\n\r\n", host + "a\r\n", host + "a b: c\r\n", host + strings.Repeat("a: b\r\n", 16),
		host + "Content-Length: x\r\n\r\n", host + "Content-Length: 1\r\nContent-Length: 2\r\n\r\n", host + "Content-Length: 1\r\nTransfer-Encoding: chunked\r\n\r\n",
		host + "Transfer-Encoding: gzip\r\n\r\n", chunked + "x\r\n", chunked + "1\r\nab\r\n", chunked + "1\r\na\r\n\n", chunked + "0\r\nab\r\n", chunked + "0\r\n" + strings.Repeat("a: b\r\n", 17),
		"POST /form HTTP/1.1\r\n" + ofForm + "\r\n\r\n",
	}
	return long, others
}

func TestRequestsThatFail(t *testing.T) {
	long, others := failures()
	for i, s := range append(long, others...) {
		want := told(400, "")
		if i < len(long) {
			want = told(413, "")
		}
		for _, ahead := range []string{"", "\r\n", ask("GET", "/", "")} {
			for _, behind := range []string{"", "x", "\r\n", ask("GET", "/", ""), create("Upload-Length: 5")} {
				g := open(unsure)
				first := ""
				if len(ahead) > 2 {
					first = told(404, "")
				}
				leaves(t, g, 1, ahead+s+behind, first+want)
				busy(t, quote(s), g, "0000")
				for _, more := range []string{"", "x", ask("GET", "/", ""), create("Upload-Length: 5"), s} {
					refuses(t, g, 1, more, api.ErrDone)
				}
				// The others know nothing of it.
				leaves(t, g, 0, ask("GET", "/", ""), told(404, ""))
				if code := g.Gone(1); code != 0 {
					t.Errorf("Gone behind a failure: %d", code)
				}
				leaves(t, g, 1, ask("GET", "/", ""), told(404, ""))
			}
		}
	}
}

// The status of each failure is that of the code which the request has.
func TestCodesOfFailures(t *testing.T) {
	long, others := failures()
	codes := map[int]int{}
	for _, s := range append(long, others...) {
		l := request.New().Feed([]byte(s))
		code := l[len(l)-1].Code
		codes[code]++
		want := 400
		if code == api.ErrLong {
			want = 413
		}
		leaves(t, open(), 0, s, told(want, ""))
	}
	for _, code := range []int{api.ErrLine, api.ErrChar, api.ErrLong, api.ErrForm, api.ErrName, api.ErrNumber, api.ErrMany, api.ErrKind, api.ErrLength, api.ErrHost} {
		if codes[code] == 0 {
			t.Errorf("nothing fails with the code %d", code)
		}
	}
	for code := -1; code <= 30; code++ {
		want := 400
		if code == api.ErrLong {
			want = 413
		}
		if got := string(text(failed(code))); got != told(want, "") {
			t.Errorf("a failure with the code %d: %q", code, got)
		}
	}
}

// A request whose body fails is not done, as far as it came.
func TestNothingIsDoneOfAFailure(t *testing.T) {
	piece := ask("PATCH", "/files/1", "", spoken, ofPiece, "Upload-Offset: 2", "Transfer-Encoding: chunked")
	posted := ask("POST", "/form", "", ofForm, "Transfer-Encoding: chunked")
	whole := form(file("a", "b"))
	for _, s := range []string{piece + "2\r\ncd\r\nx\r\n", piece + "2\r\ncdx\r\n", piece + "2\r\ncd\r\n0\r\nx\r\n", posted + fmt.Sprintf("%x\r\n%s\r\n\n", len(whole), whole)} {
		for n := 1; n <= len(s); n++ {
			g := open(unsure)
			was := state(g.Store)
			if got := piecesOf(t, g, 0, s, n); got != told(400, "") {
				t.Errorf("%s in pieces of %d: %q", quote(s), n, got)
			}
			busy(t, "it failed", g, "0000")
			if code := g.Gone(0); code != 0 || state(g.Store) != was {
				t.Errorf("%s and Gone: %d, %q", quote(s), code, short(state(g.Store)))
			}
		}
	}
}

// A head or a body of one request is none of the next one's.
func TestRequestsDoNotMix(t *testing.T) {
	g := open()
	feeds(t, g, 0, postForm(file("a", "one")), told(201, "1 a\n"))
	feeds(t, g, 0, ask("POST", "/form", "", ofForm), told(400, ""))
	feeds(t, g, 0, ask("POST", "/form", form(file("a", "b"))), told(415, ""))
	feeds(t, g, 0, ask("GET", "/", "ahead"), told(404, ""))
	feeds(t, g, 0, create("Upload-Length: 9"), createdAt(2))
	feeds(t, g, 0, patch(2, 0, "abc")+patch(2, 3, "")+patch(2, 3, "def"), offsetAt(3)+offsetAt(3)+offsetAt(6))
	holds(t, "not mixed", g.Store, "1 3 filename a: one", "2 9 : abcdef")
}

// Reset: all connections are new ones, and of what came on them nothing is
// done.
func TestReset(t *testing.T) {
	g := open(unsure)
	feeds(t, g, 0, patch(1, 2, "cdefghi")[:len(patch(1, 2, "cdefghi"))-2], "")
	feeds(t, g, 1, "GET / HT", "")
	feeds(t, g, 2, "\n", told(400, ""))
	feeds(t, g, 3, postForm(file("a", "b"))[:150], "")
	busy(t, "begun", g, "1101")
	was := state(g.Store)
	g.Reset()
	if now := state(g.Store); now != was {
		t.Errorf("Reset: %q, was %q", short(now), short(was))
	}
	busy(t, "Reset", g, "0000")
	for k := range 4 {
		if code := g.Gone(k); code != 0 || state(g.Store) != was {
			t.Errorf("Gone(%d) behind Reset: %d", k, code)
		}
		g.Reset()
		leaves(t, g, k, ask("GET", "/", ""), told(404, ""))
	}
	feeds(t, g, 0, patch(1, 2, "c"), offsetAt(3))
	g.Reset()
	g.Reset()
	holds(t, "Reset twice", g.Store, "1 9 m: abc")
}

// Two gates on one store have uploads in common, and no connections.
func TestTwoGates(t *testing.T) {
	st := store.New()
	a, b := New(st), New(st)
	feeds(t, a, 0, create("Upload-Length: 5"), createdAt(1))
	feeds(t, a, 0, patch(1, 0, "abcde")[:len(patch(1, 0, "abcde"))-3], "")
	busy(t, "the first one", a, "1000")
	busy(t, "the second one", b, "0000")
	feeds(t, b, 0, postForm(file("f", "g")), told(201, "2 f\n"))
	feeds(t, b, 1, "\n", told(400, ""))
	feeds(t, a, 1, ask("GET", "/", ""), told(404, ""))
	b.Reset()
	busy(t, "the first one, still", a, "1000")
	b.Gone(0)
	holds(t, "not gone", st, "1 5 : ", "2 1 filename f: g")
	a.Gone(0)
	holds(t, "gone", st, "1 5 : ab", "2 1 filename f: g")
	feeds(t, b, 0, patch(1, 2, "cde"), offsetAt(5))
	feeds(t, a, 0, other("HEAD", 1), tusTold("200 OK", "Upload-Offset: 5", "Upload-Length: 5", "Cache-Control: no-store"))
	if a.Store != st || b.Store != st || state(a.Store) != state(b.Store) {
		t.Errorf("they are not on one store")
	}
}

// New leaves a store as it is, and a gate on it is that store.
func TestAGateIsAStore(t *testing.T) {
	st := store.New()
	unsure(st)
	was := state(st)
	g := New(st)
	busy(t, "new", g, "0000")
	if state(st) != was {
		t.Errorf("New changed the store")
	}
	if id, code := g.Create(3, "n"); id != 2 || code != 0 {
		t.Errorf("Create: %d, %d", id, code)
	}
	if u, ok := st.Get(2); !ok || u.Meta != "n" {
		t.Errorf("the store does not know of it: %v, %v", u, ok)
	}
	g.Sync()
	log, sure := st.Log()
	if sure != len(log) || g.Next() != 3 || g.Used() != 2 || len(g.List()) != 2 || !g.Room(10) {
		t.Errorf("it is no such store: %q", state(st))
	}
}

// What was answered is there behind a crash, whatever is lost of what came
// later; the connections know nothing of a crash, but for Reset.
func TestCrashes(t *testing.T) {
	for keep := -1; keep < 40; keep++ {
		g := open()
		feeds(t, g, 0, create("Upload-Length: 9"), createdAt(1))
		feeds(t, g, 0, patch(1, 0, "abc"), offsetAt(3))
		feeds(t, g, 1, postForm(file("f", "g"), file("h", "i")), told(201, "2 f\n3 h\n"))
		feeds(t, g, 2, patch(1, 3, "def")[:len(patch(1, 3, "def"))-1], "")
		was := state(g.Store)
		g.Append(1, 3, []byte(some(6)))
		g.Crash(min(keep, 9))
		if state(g.Store) != was {
			t.Errorf("Crash(%d): %q, was %q", keep, short(state(g.Store)), short(was))
		}
		busy(t, "a crash", g, "0010")
		if keep%2 == 0 {
			feeds(t, g, 2, "f", offsetAt(6))
			holds(t, "a crash", g.Store, "1 9 : abcdef", "2 1 filename f: g", "3 1 filename h: i")
		} else {
			g.Gone(2)
			was = state(g.Store)
			g.Crash(keep)
			holds(t, "gone and a crash", g.Store, "1 9 : abcde", "2 1 filename f: g", "3 1 filename h: i")
			if state(g.Store) != was {
				t.Errorf("what came of a piece was not made sure of")
			}
		}
	}
}

// What is handed in stays as it is, also behind its length, and is not kept;
// what is answered is new memory.
func TestMemory(t *testing.T) {
	g := open()
	piece := create("Upload-Length: 9") + patch(1, 0, "abcdefghi")
	var outs []string
	var answers [][]byte
	for i := range len(piece) {
		b := []byte("x" + piece[i:i+1] + "\n\n\n\n")
		out, _ := g.Feed(0, b[1:2])
		if string(b) != "x"+piece[i:i+1]+"\n\n\n\n" {
			t.Fatalf("what was handed in became %q", b)
		}
		clear(b)
		answers, outs = append(answers, out), append(outs, string(out))
	}
	holds(t, "in pieces", g.Store, "1 9 : abcdefghi")
	b := []byte(patch(1, 9, "") + postForm(file("f", "g")) + patch(1, 9, "")[:30])
	was := string(b)
	out, _ := g.Feed(0, b[:len(b):len(b)])
	if string(b) != was || string(out) != offsetAt(9)+told(201, "2 f\n") {
		t.Errorf("%q, and what was handed in became %q", out, b)
	}
	clear(b)
	before := state(g.Store)
	for i, a := range answers {
		if string(a) != outs[i] {
			t.Errorf("an answer became %q", a)
		}
		clear(a[:cap(a)])
	}
	clear(out[:cap(out)])
	if state(g.Store) != before {
		t.Errorf("an answer shares memory with the store")
	}
	feeds(t, g, 0, patch(1, 9, "")[30:], offsetAt(9))
	first, _ := g.Feed(1, []byte(ask("GET", "/", "")))
	again, _ := g.Feed(2, []byte(ask("GET", "/", "")))
	clear(first[:cap(first)])
	if string(again) != told(404, "") {
		t.Errorf("two answers share memory")
	}
	leaves(t, g, 1, ask("GET", "/", ""), told(404, ""))
}

// What is sent on a connection that is gone stays what it was, whatever becomes
// of the bytes that were handed in.
func TestMemoryOfWhatIsGone(t *testing.T) {
	g := open(unsure)
	for _, s := range []string{patch(1, 2, "cdefghi")[:len(patch(1, 2, "cdefghi"))-4], "fg"} {
		b := []byte(s)
		g.Feed(0, b)
		copy(b, strings.Repeat("?", len(b)))
	}
	g.Gone(0)
	holds(t, "gone", g.Store, "1 9 m: abcdefg")
}

// The document's examples that speak of connections.
func TestExamples(t *testing.T) {
	g := open()
	feeds(t, g, 0, create("Upload-Length: 9"), createdAt(1))
	nine := patch(1, 0, "abcdefghi")
	feeds(t, g, 0, nine[:len(nine)-6], "")
	if code := g.Gone(0); code != 0 {
		t.Errorf("Gone: %d", code)
	}
	feeds(t, g, 0, other("HEAD", 1), tusTold("200 OK", "Upload-Offset: 3", "Upload-Length: 9", "Cache-Control: no-store"))
	feeds(t, g, 0, patch(1, 3, "defghi"), offsetAt(9))
	holds(t, "it goes on there", g.Store, "1 9 : abcdefghi")

	for k, line := range []string{"Content-Length: 2", "Transfer-Encoding: chunked", "transfer-encoding: CHUNKED"} {
		leaves(t, g, k, ask("POST", "/files", "a", line)+create("Upload-Length: 1"), told(400, ""))
		refuses(t, g, k, create("Upload-Length: 1"), api.ErrDone)
	}
	feeds(t, g, 3, postForm(file("../../etc/.x", "y")), told(201, "2 x\n"))
	holds(t, "a name", g.Store, "1 9 : abcdefghi", "2 1 filename x: y")
}

// Whatever bytes come in, no call panics, and all is as the chapter says.
func TestAnyBytes(t *testing.T) {
	marks := []string{"\r\n", "\r", "\n", " ", "/", "--X", "POST /form HTTP/1.1\r\n", "Host: a\r\n", "0\r\n\r\n", "Content-Length: 3\r\n", "Transfer-Encoding: chunked\r\n", ofForm + "\r\n", "PATCH /files/1 HTTP/1.1\r\n", spoken + "\r\n", ofPiece + "\r\n", "Upload-Offset: 2\r\n", "abc", "3\r\nabc\r\n"}
	for seed := range 300 {
		from := source(seed)
		b := newBoth(unsure)
		for range 60 {
			s := marks[from.below(len(marks))]
			if from.below(12) == 0 {
				s = string([]byte{byte(from.below(256)), byte(from.below(256))})
			}
			k := from.below(7) - 1
			b.feed(t, k, s)
			if from.below(8) == 0 {
				b.gone(t, k)
			}
		}
	}
	for n := range 256 {
		c := string([]byte{byte(n)})
		for _, at := range []int{0, 3, 5, 12, 16, 40, 120, 150, 200} {
			b := newBoth(unsure)
			s := postForm(file("a", "b"), part("c"), file("d", "e"))
			b.feed(t, 0, s[:at]+c+s[at+1:])
			b.gone(t, 0)
			p := patch(1, 2, "cdef")
			at = min(at, len(p)-1)
			b.feed(t, 0, p[:at]+c+p[at+1:])
			b.gone(t, 0)
		}
	}
}
