package gate

import (
	"fmt"
	"testing"

	"lighterage/api"
	"lighterage/store"
)

// gone: what came on a connection that is gone is answered by nothing, and the
// store behind it is as wanted: its log grows by those entries, all of it made
// sure of, or it stays as it is, if there are none.
func gone(t *testing.T, g *Gate, k int, entries ...string) {
	t.Helper()
	was := state(g.Store)
	log, _ := g.Log()
	if code := g.Gone(k); code != 0 {
		t.Errorf("Gone(%d): %d", k, code)
	}
	busy(t, "gone", g, "0000")
	if len(entries) == 0 {
		if now := state(g.Store); now != was {
			t.Errorf("Gone(%d): %q, was %q", k, short(now), short(was))
		}
	} else {
		grows(t, g, fmt.Sprintf("Gone(%d)", k), string(log), entries...)
	}
	// Once more there is nothing that could be done.
	was = state(g.Store)
	if code := g.Gone(k); code != 0 || state(g.Store) != was {
		t.Errorf("Gone(%d) again: %d, %q", k, code, short(state(g.Store)))
	}
	// Another one is in its place.
	leaves(t, g, k, ask("GET", "/", ""), told(404, ""))
}

// Of a PATCH what came of its body is done, at each place at which it is cut
// off.
func TestGoneInAPiece(t *testing.T) {
	text := patch(1, 2, "cdefghi")
	head := len(text) - 7
	for n := range len(text) {
		g := open(unsure)
		k := n % 4
		feeds(t, g, k, text[:n/2], "")
		feeds(t, g, k, text[n/2:n], "")
		if g.Busy(k) != (n > 0) {
			t.Errorf("%s: Busy is %v", quote(text[:n]), g.Busy(k))
		}
		if n <= head {
			gone(t, g, k)
			holds(t, quote(text[:n]), g.Store, "1 9 m: ab")
			continue
		}
		came := text[head:n]
		gone(t, g, k, fmt.Sprintf("%c\x03\x02\x01%s", 4+len(came), came))
		holds(t, quote(text[:n]), g.Store, "1 9 m: ab"+came)
	}
	g := open(unsure)
	feeds(t, g, 0, text, offsetAt(9))
	gone(t, g, 0)
}

// A body in chunks: what came of it is done, without what stands between.
func TestGoneInAPieceInChunks(t *testing.T) {
	head := ask("PATCH", "/files/1", "", spoken, ofPiece, "Upload-Offset: 2", "Transfer-Encoding: chunked")
	for _, x := range []struct{ came, bytes string }{
		{"", ""}, {"3", ""}, {"3\r\n", ""}, {"3\r\nc", "c"}, {"3\r\ncde", "cde"}, {"3\r\ncde\r", "cde"}, {"3\r\ncde\r\n", "cde"}, {"3\r\ncde\r\n2", "cde"},
		{"3\r\ncde\r\n2;x\r\nf", "cdef"}, {"3\r\ncde\r\n2\r\nfg\r\n0\r\n", "cdefg"}, {"3\r\ncde\r\n0\r\na: b\r\n", "cde"}, {"3\r\ncde\r\n0\r\n\r", "cde"}, {"0\r\n", ""}, {"0\r\n\r", ""},
	} {
		for n := 1; n < 5; n++ {
			g := open(unsure)
			if got := piecesOf(t, g, 0, head+x.came, n); got != "" {
				t.Errorf("%q: %q", x.came, got)
			}
			busy(t, x.came, g, "1000")
			if x.bytes == "" {
				gone(t, g, 0)
			} else {
				gone(t, g, 0, fmt.Sprintf("%c\x03\x02\x01%s", 4+len(x.bytes), x.bytes))
			}
			holds(t, x.came, g.Store, "1 9 m: ab"+x.bytes)
		}
	}
	g := open(unsure)
	feeds(t, g, 0, head+"3\r\ncde\r\n0\r\n\r\n", offsetAt(5))
	gone(t, g, 0)
	feeds(t, g, 0, head+"3\r\ncdex\r\n", told(400, ""))
	gone(t, g, 0)
	holds(t, "over, and failed", g.Store, "1 9 m: abcde")
}

// With no request begun, or behind some that are over, nothing is done.
func TestGoneBetweenRequests(t *testing.T) {
	for _, x := range []struct{ text, want string }{
		{"", ""}, {"\r\n", ""}, {"\r\n\r\n", ""}, {ask("GET", "/", "ab"), told(404, "")}, {patch(1, 1, "cd"), tusTold("409 Conflict")}, {ask("POST", "/form", "no form", ofForm), told(400, "")},
	} {
		g := open(unsure)
		leaves(t, g, 0, x.text, x.want)
		busy(t, x.text, g, "0000")
		gone(t, g, 0)
	}
	for _, text := range []string{"\r", "G", "\r\n\r", "\r\nG", "GET / HTTP/1.1\r\n", "PATCH /files/1 HTTP/1.1\r\nHost: a\r\n" + spoken + "\r\n", ask("GET", "/", "") + "\r", ask("GET", "/", "") + "P"} {
		g := open(unsure)
		g.Feed(0, []byte(text))
		busy(t, text, g, "1000")
		gone(t, g, 0)
		busy(t, text, g, "0000")
	}
}

// begun: a request of which all but the last bytes came.
func begun(text string) string { return text[:len(text)-3] }

// Only a PATCH of a target that begins with /files/ is done in part.
func TestGoneInOtherRequests(t *testing.T) {
	lines := []string{spoken, ofPiece, "Upload-Offset: 2"}
	for _, target := range []string{"/", "/files", "/filesx/1", "/file/1", "/Files/1", "/form", "/x/files/1", "//files/1"} {
		g := open(unsure)
		feeds(t, g, 0, begun(ask("PATCH", target, "cdefghi", lines...)), "")
		busy(t, target, g, "1000")
		gone(t, g, 0)
	}
	for _, method := range []string{"POST", "PUT", "HEAD", "GET", "DELETE", "OPTIONS", "patch", "Patch", "PATCHES", "PATC"} {
		for _, target := range []string{"/files", "/files/", "/files/1", "/form", "/"} {
			g := open(unsure)
			feeds(t, g, 0, begun(ask(method, target, "cdefghi", append(lines, "Upload-Length: 9")...)), "")
			busy(t, method, g, "1000")
			gone(t, g, 0)
		}
	}
	for _, text := range []string{postForm(file("a", "b")), inChunks("POST", "/form", []string{form(file("a", "b"))}, ofForm)} {
		g := open(unsure)
		feeds(t, g, 0, begun(text), "")
		busy(t, "a form", g, "1000")
		gone(t, g, 0)
		holds(t, "a form", g.Store, "1 9 m: ab")
	}
}

// What a PATCH in part comes to, its fields say as ever: nothing is answered,
// whatever that is.
func TestGoneInAPieceThatIsRefused(t *testing.T) {
	offset := "Upload-Offset: 2"
	for _, x := range []struct {
		target string
		lines  []string
	}{
		{"/files/", []string{spoken, ofPiece, offset}},
		{"/files/2", []string{spoken, ofPiece, offset}},
		{"/files/01", []string{spoken, ofPiece, offset}},
		{"/files/1/", []string{spoken, ofPiece, offset}},
		{"/files/1", []string{ofPiece, offset}},
		{"/files/1", []string{"Tus-Resumable: 0.2.2", ofPiece, offset}},
		{"/files/1", []string{spoken, offset}},
		{"/files/1", []string{spoken, ofForm, offset}},
		{"/files/1", []string{spoken, ofPiece}},
		{"/files/1", []string{spoken, ofPiece, "Upload-Offset: 1"}},
		{"/files/1", []string{spoken, ofPiece, offset, offset}},
		{"/files/1", []string{spoken, ofPiece, offset, "Upload-Length: 8"}},
	} {
		g := open(unsure)
		feeds(t, g, 0, begun(ask("PATCH", x.target, "cdefghi", x.lines...)), "")
		gone(t, g, 0)
	}
	// Too many for its size; and just as many, though more were to come.
	g := open(unsure)
	feeds(t, g, 0, begun(ask("PATCH", "/files/1", some(11), spoken, ofPiece, offset)), "")
	gone(t, g, 0)
	feeds(t, g, 0, begun(ask("PATCH", "/files/1", some(10), spoken, ofPiece, offset)), "")
	gone(t, g, 0, "\x0b\x03\x02\x01"+some(7))
	holds(t, "whole", g.Store, "1 9 m: ab"+some(7))
}

// The length that is told with a piece is declared, if what came is no more.
func TestGoneInAPieceThatTellsTheLength(t *testing.T) {
	untold := func(st *store.Store) { st.Create(-1, "") }
	g := open(untold)
	feeds(t, g, 0, begun(ask("PATCH", "/files/1", "abcdef", spoken, ofPiece, "Upload-Offset: 0", "Upload-Length: 3")), "")
	gone(t, g, 0, "\x07\x03\x02\x01abc", "\x04\x04\x02\x04")
	holds(t, "whole", g.Store, "1 3 : abc")
	g = open(untold)
	feeds(t, g, 0, begun(ask("PATCH", "/files/1", "abcdef", spoken, ofPiece, "Upload-Offset: 0", "Upload-Length: 2")), "")
	gone(t, g, 0)
}

// Where the log has no room for a piece, nothing is done of it.
func TestGoneWithoutRoom(t *testing.T) {
	for few := range 2 {
		g := open(func(st *store.Store) {
			pad(t, st, 100000-11-63+few)
			unsure(st)
		})
		id := g.Next() - 1
		feeds(t, g, 0, begun(patch(id, 2, "cdefgh")), "")
		if few > 0 {
			gone(t, g, 0)
			continue
		}
		if log, _ := g.Log(); len(log) != 100000-63 {
			t.Fatalf("the log has %d bytes", len(log))
		}
		gone(t, g, 0, fmt.Sprintf("\x07\x03%c\x01cde", id+1))
	}
}

// Behind a failure, in the midst of a piece or of a head, nothing is done.
func TestGoneBehindAFailure(t *testing.T) {
	piece := ask("PATCH", "/files/1", "", spoken, ofPiece, "Upload-Offset: 2", "Transfer-Encoding: chunked")
	for _, s := range []string{"\n", "PATCH /files/1 HTTP/1.1\r\n\r\n", piece + "1\r\ncx\r\n", piece + "2\r\ncd\r\nx\r\n", piece + "2\r\ncd\r\n0\r\nx\r\n", ask("PATCH", "/files/1", "cd", spoken, ofPiece, "Upload-Offset: 2", "Content-Length: 3")} {
		g := open(unsure)
		leaves(t, g, 2, s, told(400, ""))
		refuses(t, g, 2, "cd", api.ErrDone)
		busy(t, s, g, "0000")
		gone(t, g, 2)
		holds(t, s, g.Store, "1 9 m: ab")
	}
}

// Each connection goes alone.
func TestGoneLeavesOthers(t *testing.T) {
	g := open(unsure)
	id, _ := g.Create(9, "")
	for k := range 4 {
		feeds(t, g, k, begun(patch(1+k%2, 2-k%2*2, "cdefgh")), "")
	}
	busy(t, "all", g, "1111")
	g.Gone(1)
	busy(t, "three", g, "1011")
	holds(t, "one", g.Store, "1 9 m: ab", fmt.Sprintf("%d 9 : cde", id))
	g.Gone(2)
	g.Gone(0)
	busy(t, "one", g, "0001")
	// The first one that went had its place; the other one's is no longer there.
	holds(t, "two", g.Store, "1 9 m: abcde", fmt.Sprintf("%d 9 : cde", id))
	feeds(t, g, 3, "fgh", tusTold("409 Conflict"))
}

// Busy behind each byte of requests that stand one behind the other.
func TestBusy(t *testing.T) {
	g := open()
	for _, text := range []string{ask("GET", "/", ""), ask("GET", "/", "body"), inChunks("PUT", "/x", []string{"ab", "c"}, "a: b"), create("Upload-Length: 5"), patch(1, 0, "abcde"), postForm(file("a", "b"))} {
		for i := range len(text) {
			g.Feed(1, []byte(text[i:i+1]))
			want := "0100"
			if i == len(text)-1 {
				want = "0000"
			}
			busy(t, quote(text[:i+1]), g, want)
		}
		for _, x := range []struct{ came, want string }{{"", "0000"}, {"\r", "0100"}, {"\n", "0000"}, {"\r\n\r\n", "0000"}} {
			g.Feed(1, []byte(x.came))
			busy(t, quote(text+x.came), g, x.want)
		}
	}
	feeds(t, g, 1, "GET", "")
	busy(t, "begun", g, "0100")
	feeds(t, g, 1, "\n", told(400, ""))
	busy(t, "failed", g, "0000")
	refuses(t, g, 1, "GET", api.ErrDone)
	busy(t, "behind a failure", g, "0000")
}
