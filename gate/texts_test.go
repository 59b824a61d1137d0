package gate

import (
	"fmt"
	"strings"
	"testing"

	"lighterage/store"
)

// What requests are written of.
const (
	spoken  = "Tus-Resumable: 1.0.0"
	ofPiece = "Content-Type: application/offset+octet-stream"
	ofForm  = "Content-Type: multipart/form-data; boundary=X"

	tusAhead  = "\r\nTus-Resumable: 1.0.0\r\n"
	tusBehind = "Content-Length: 0\r\n\r\n"
)

// ask: a request whose length is told, if it has a body.
func ask(method, target, body string, lines ...string) string {
	out := method + " " + target + " HTTP/1.1\r\nHost: a\r\n"
	for _, line := range lines {
		out += line + "\r\n"
	}
	if body != "" {
		out += fmt.Sprintf("Content-Length: %d\r\n", len(body))
	}
	return out + "\r\n" + body
}

// inChunks: a request whose body comes in chunks.
func inChunks(method, target string, pieces []string, lines ...string) string {
	out := ask(method, target, "", append(lines, "Transfer-Encoding: chunked")...)
	for _, piece := range pieces {
		out += fmt.Sprintf("%x\r\n%s\r\n", len(piece), piece)
	}
	return out + "0\r\n\r\n"
}

// create, patch and other are requests of uploads.
func create(lines ...string) string { return ask("POST", "/files", "", append(lines, spoken)...) }

func patch(id, offset int, body string) string {
	return ask("PATCH", fmt.Sprintf("/files/%d", id), body, spoken, ofPiece, fmt.Sprintf("Upload-Offset: %d", offset))
}

func other(method string, id int) string {
	return ask(method, fmt.Sprintf("/files/%d", id), "", spoken)
}

// tusTold: a reply to one of these.
func tusTold(status string, lines ...string) string {
	out := "HTTP/1.1 " + status + tusAhead
	for _, line := range lines {
		out += line + "\r\n"
	}
	return out + tusBehind
}

func createdAt(id int) string {
	return tusTold("201 Created", fmt.Sprintf("Location: /files/%d", id))
}

func offsetAt(n int) string {
	return tusTold("204 No Content", fmt.Sprintf("Upload-Offset: %d", n))
}

// part and file are parts of a form, without and with a file.
func part(body string) string {
	return "--X\r\nContent-Disposition: form-data; name=a\r\n\r\n" + body + "\r\n"
}

func file(name, body string) string {
	return "--X\r\nContent-Disposition: form-data; name=a; filename=\"" + name + "\"\r\n\r\n" + body + "\r\n"
}

func form(parts ...string) string { return strings.Join(parts, "") + "--X--\r\n" }

func postForm(parts ...string) string { return ask("POST", "/form", form(parts...), ofForm) }

// pad makes a log of that many bytes, all made sure of, with no uploads.
func pad(t *testing.T, st *store.Store, n int) {
	t.Helper()
	for {
		log, _ := st.Log()
		left := n - len(log)
		if left == 0 {
			break
		}
		// A Create and a Drop have eight bytes beside what is told.
		meta, bytes := left-8, 0
		if left > 108 {
			meta = 84
		}
		if left > 3000 {
			meta, bytes = 0, 2000
		}
		id, code := st.Create(-1, some(max(meta, 0)))
		if code == 0 && bytes > 0 {
			code = st.Append(id, 0, []byte(some(bytes)))
		}
		if code != 0 || st.Drop(id) != 0 {
			t.Fatalf("a log of %d bytes can't be", n)
		}
	}
	st.Sync()
	if st.Next() > 110 {
		t.Fatalf("the next number is %d", st.Next())
	}
}

// feeds: the bytes on that connection are answered so.
func feeds(t *testing.T, g *Gate, k int, s, want string) {
	t.Helper()
	out, code := g.Feed(k, []byte(s))
	if string(out) != want || code != 0 {
		t.Errorf("%d: %s: %q, %d, want %q", k, quote(s), out, code, want)
	}
}

// refuses: the bytes on that connection have that code.
func refuses(t *testing.T, g *Gate, k int, s string, want int) {
	t.Helper()
	was := state(g.Store)
	out, code := g.Feed(k, []byte(s))
	if len(out) != 0 || code != want || state(g.Store) != was {
		t.Errorf("%d: %s: %q, %d, want the code %d", k, quote(s), out, code, want)
	}
}

// leaves: as feeds, and the store is as it was, what is made sure of, too.
func leaves(t *testing.T, g *Gate, k int, s, want string) {
	t.Helper()
	was := state(g.Store)
	feeds(t, g, k, s, want)
	if now := state(g.Store); now != was {
		t.Errorf("%d: %s: %q, was %q", k, quote(s), short(now), short(was))
	}
}

// does: as feeds; those entries stand behind all others in the log, all of it
// is made sure of, and a crash changes nothing.
func does(t *testing.T, g *Gate, k int, s, want string, entries ...string) {
	t.Helper()
	was, _ := g.Log()
	feeds(t, g, k, s, want)
	grows(t, g, quote(s), string(was), entries...)
}

// grows: what the log was, those entries stand behind, all made sure of.
func grows(t *testing.T, g *Gate, what, was string, entries ...string) {
	t.Helper()
	log, sure := g.Log()
	if whole := was + strings.Join(entries, ""); string(log) != whole || sure != len(whole) {
		t.Errorf("%s: the log is %s, %d sure, want %s", what, quote(string(log)), sure, quote(whole))
	}
	now := state(g.Store)
	g.Crash(0)
	if behind := state(g.Store); behind != now {
		t.Errorf("%s and a crash: %q, was %q", what, short(behind), short(now))
	}
}

// holds: the store has just these uploads: each told as its number, its Size,
// its Meta and its bytes.
func holds(t *testing.T, what string, st *store.Store, want ...string) {
	t.Helper()
	var got []string
	for _, u := range st.List() {
		got = append(got, fmt.Sprintf("%d %d %s: %s", u.ID, u.Size, u.Meta, u.Bytes))
	}
	if a, b := strings.Join(got, "|"), strings.Join(want, "|"); a != b {
		t.Errorf("%s: %s, want %s", what, quote(a), quote(b))
	}
}

// busy: is each connection busy, or not, as told by a 1 or a 0?
func busy(t *testing.T, what string, g *Gate, want string) {
	t.Helper()
	got := ""
	for k := range 4 {
		got += map[bool]string{true: "1", false: "0"}[g.Busy(k)]
	}
	if got != want {
		t.Errorf("%s: busy is %s, want %s", what, got, want)
	}
}

// open: a gate on a new store to which that was done.
func open(steps ...func(st *store.Store)) *Gate {
	st := store.New()
	for _, step := range steps {
		step(st)
	}
	return New(st)
}

// unsure: an upload of nine bytes, of which two came, which nobody made sure
// of: so it is seen who does.
func unsure(st *store.Store) {
	id, _ := st.Create(9, "m")
	st.Append(id, 0, []byte("ab"))
}
