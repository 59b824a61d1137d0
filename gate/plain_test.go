package gate

import (
	"fmt"
	"strings"
	"testing"

	"lighterage/api"
	"lighterage/forms"
	"lighterage/params"
	"lighterage/reply"
	"lighterage/request"
	"lighterage/store"
	"lighterage/tus"
)

// What stands here is the chapter read plainly: the program is held against
// it.

// plain keeps of each connection all that came on it, and reads it anew each
// time.
type plain struct {
	st   *store.Store
	came [4]string
	told [4]int // how many requests were answered on it
}

// read: a request as it was read. Its code is that of its failure.
type read struct {
	head api.Head
	body string
	over bool
	code int
}

// readAll reads all that came on a connection.
func readAll(came string) (l []read) {
	for _, e := range request.New().Feed([]byte(came)) {
		last := len(l) - 1
		switch e.Kind {
		case api.EHead:
			l = append(l, read{head: e.Head})
		case api.EBody:
			l[last].body += string(e.Bytes)
		case api.EEnd:
			l[last].over = true
		case api.EFail:
			if last < 0 || l[last].over {
				l = append(l, read{})
			}
			l[len(l)-1].code = e.Code
		}
	}
	return l
}

func (p *plain) feed(k int, b string) (string, int) {
	if k < 0 || k > 3 {
		return "", api.ErrRange
	}
	for _, q := range readAll(p.came[k]) {
		if q.code != 0 {
			return "", api.ErrDone
		}
	}
	p.came[k] += b
	out := ""
	for _, q := range readAll(p.came[k])[p.told[k]:] {
		switch {
		case q.code == api.ErrLong:
			out += told(413, "")
		case q.code != 0:
			out += told(400, "")
		case q.over:
			out += p.answer(q)
		default:
			continue
		}
		p.told[k]++
	}
	return out, 0
}

func (p *plain) gone(k int) int {
	if k < 0 || k > 3 {
		return api.ErrRange
	}
	for _, q := range readAll(p.came[k]) {
		if !q.over && q.code == 0 && q.head.Method == "PATCH" && strings.HasPrefix(q.head.Target, "/files/") && q.body != "" {
			tus.Do(p.st, q.head, []byte(q.body))
		}
	}
	p.came[k], p.told[k] = "", 0
	return 0
}

func (p *plain) reset() { p.came, p.told = [4]string{}, [4]int{} }

func (p *plain) busy(k int) bool {
	if k < 0 || k > 3 {
		return false
	}
	r := request.New()
	r.Feed([]byte(p.came[k]))
	return r.Busy()
}

func (p *plain) answer(q read) string {
	if q.head.Target == "/files" || strings.HasPrefix(q.head.Target, "/files/") {
		text, _ := reply.Write(tus.Do(p.st, q.head, []byte(q.body)))
		return string(text)
	}
	if q.head.Target != "/form" {
		return told(404, "")
	}
	if q.head.Method != "POST" {
		return told(405, "")
	}
	var kinds []string
	for _, f := range q.head.Fields {
		if strings.ToLower(f.Name) == "content-type" {
			kinds = append(kinds, f.Value)
		}
	}
	if len(kinds) != 1 {
		return told(415, "")
	}
	m, code := params.Parse(kinds[0])
	if code != 0 || m.Word != "multipart/form-data" {
		return told(415, "")
	}
	for _, x := range m.Params {
		if x.Name == "boundary" {
			return p.form(x.Value, q.body)
		}
	}
	return told(415, "")
}

func (p *plain) form(boundary, body string) string {
	parts, code := forms.Read(boundary, []byte(body))
	if code != 0 {
		return told(400, "")
	}
	log, _ := p.st.Log()
	need := len(log)
	for _, x := range parts {
		need += len(x.Bytes)
	}
	if need+200*len(parts) > 100000 {
		return told(507, "")
	}
	var made []int
	list := ""
	for _, x := range parts {
		if x.File == "" {
			continue
		}
		id, code := p.st.Create(len(x.Bytes), "filename "+x.File)
		created := code == 0
		if created {
			code = p.st.Append(id, 0, x.Bytes)
		}
		if code == 0 {
			made = append(made, id)
			list += fmt.Sprintf("%d %s\n", id, x.File)
			continue
		}
		if created {
			p.st.Drop(id)
		}
		for _, id := range made {
			p.st.Drop(id)
		}
		p.st.Sync()
		if code == api.ErrLong {
			return told(413, "")
		}
		return told(507, "")
	}
	p.st.Sync()
	return told(201, list)
}

// told: a reply that has no fields but its length.
func told(status int, body string) string {
	words := map[int]string{201: "Created", 400: "Bad Request", 404: "Not Found", 405: "Method Not Allowed",
		413: "Content Too Large", 415: "Unsupported Media Type", 507: "Insufficient Storage"}
	return fmt.Sprintf("HTTP/1.1 %d %s\r\nContent-Length: %d\r\n\r\n%s", status, words[status], len(body), body)
}

// both: a gate on a store, and a plain one on another.
type both struct {
	g    *Gate
	twin *plain
}

// newBoth: a gate and a plain one, each on a store of that make.
func newBoth(build func(st *store.Store)) both {
	a, b := store.New(), store.New()
	build(a)
	build(b)
	return both{New(a), &plain{st: b}}
}

func (b both) feed(t *testing.T, k int, s string) string {
	t.Helper()
	was := state(b.twin.st)
	out, code := b.g.Feed(k, []byte(s))
	want, wantCode := b.twin.feed(k, s)
	if string(out) != want || code != wantCode {
		t.Fatalf("%d: %s behind %s: %q, %d, want %q, %d", k, quote(s), short(was), out, code, want, wantCode)
	}
	b.alike(t, quote(s))
	return want
}

func (b both) gone(t *testing.T, k int) {
	t.Helper()
	if got, want := b.g.Gone(k), b.twin.gone(k); got != want {
		t.Fatalf("Gone(%d): %d, want %d", k, got, want)
	}
	b.alike(t, fmt.Sprintf("Gone(%d)", k))
}

// crash loses what is not made sure of; the connections are new ones then, or
// not.
func (b both) crash(t *testing.T, keep int, reset bool) {
	t.Helper()
	b.g.Crash(keep)
	b.twin.st.Crash(keep)
	if reset {
		b.g.Reset()
		b.twin.reset()
	}
	b.alike(t, fmt.Sprintf("Crash(%d)", keep))
}

func (b both) alike(t *testing.T, what string) {
	t.Helper()
	if got, want := state(b.g.Store), state(b.twin.st); got != want {
		t.Fatalf("%s: %q, want %q", what, short(got), short(want))
	}
	for k := -1; k <= 4; k++ {
		if got, want := b.g.Busy(k), b.twin.busy(k); got != want {
			t.Fatalf("%s: Busy(%d): %v, want %v", what, k, got, want)
		}
	}
}

// state: all that a store tells of itself, as a text.
func state(st *store.Store) string {
	log, sure := st.Log()
	var out strings.Builder
	for _, u := range st.List() {
		// The lengths, so that no two uploads are told alike.
		fmt.Fprintf(&out, "%d of %d, %d, %d %d %s %s|", u.ID, u.Size, u.Sent, len(u.Meta), len(u.Bytes), u.Meta, u.Bytes)
	}
	fmt.Fprintf(&out, " used %d next %d sure %d log %d ", st.Used(), st.Next(), sure, len(log))
	return out.String() + string(log)
}

func short(s string) string {
	if len(s) > 600 {
		return s[:300] + " .. " + s[len(s)-300:]
	}
	return s
}

func quote(s string) string { return short(fmt.Sprintf("%q", s)) }

func some(n int) string { return strings.Repeat("x", n) }

// source of numbers that look like any, and are the same each time.
type source uint64

func (s *source) below(n int) int {
	*s = *s*6364136223846793005 + 1442695040888963407
	return int(uint64(*s) >> 33 % uint64(n))
}

func pick[T any](s *source, l ...T) T { return l[s.below(len(l))] }

// aForm answers a form that is near an edge of what there may be.
func (s *source) aForm(st *store.Store) string {
	log, _ := st.Log()
	n := pick(s, 0, 1, 2, 3, 5, 12)
	var l []string
	room := 3200
	for range n {
		size := min(room, pick(s, 0, 1, 2, 30, 126, 127, 700, 1999, 2000, 2001, max(0, 6000-st.Used()), max(0, 6001-st.Used()), max(0, 100000-len(log)-200*n), max(0, 100001-len(log)-200*n)))
		room -= size
		name := pick(s, "-", "-", "a", "b c", "", "../x", ".h", "tail ", some(41), "é", `q\"`, "t\\\\u")
		if name == "-" {
			l = append(l, part(some(size)))
		} else {
			l = append(l, file(name, some(size)))
		}
	}
	text := form(l...)
	if s.below(15) == 0 {
		text = text[:s.below(len(text))]
	}
	kind := pick(s, ofForm, ofForm, ofForm, ofForm, ofForm, ofForm, ofForm, ofForm, "Content-Type: multipart/form-data; boundary=Y", "Content-Type: text/plain", ofForm+"\r\n"+ofForm)
	return s.write(pick(s, "POST", "POST", "POST", "POST", "POST", "POST", "POST", "PUT"), "/form", text, kind)
}

// write writes a request, whose body is told by its length or in chunks.
func (s *source) write(method, target, body string, lines ...string) string {
	if s.below(3) == 0 {
		var pieces []string
		for rest := body; rest != ""; {
			n := min(len(rest), 1+s.below(300))
			pieces, rest = append(pieces, rest[:n]), rest[n:]
		}
		return inChunks(method, target, pieces, lines...)
	}
	return ask(method, target, body, lines...)
}

// anUpload answers one that there is, most often; such as are not whole come
// more often than others.
func (s *source) anUpload(st *store.Store) api.Upload {
	l := st.List()
	if len(l) == 0 || s.below(10) == 0 {
		return api.Upload{ID: st.Next() - s.below(3)}
	}
	u := pick(s, l...)
	for range 3 {
		if len(u.Bytes) == u.Size {
			u = pick(s, l...)
		}
	}
	return u
}

// aPiece answers a request of an upload that is near an edge of what there is.
func (s *source) aPiece(st *store.Store) string {
	u := s.anUpload(st)
	id, have := u.ID, len(u.Bytes)
	target := fmt.Sprintf("%s%d", pick(s, "/files/", "/files/", "/files/", "/files/", "/files/", "/files/", "/files/", "/files/", "/files/", "/files/", "/files/0", "/files", "/x/"), id)
	switch s.below(8) {
	case 0:
		return ask("HEAD", target, "", spoken)
	case 1:
		return ask(pick(s, "DELETE", "DELETE", "GET", "PUT"), target, "", spoken)
	case 2:
		return ask("POST", "/files", "", spoken, pick(s, "Upload-Defer-Length: 1", "Upload-Length: 9", "Upload-Length: 2001"))
	}
	n := pick(s, 0, 1, 9, u.Size-have, u.Size-have, 2000-have, 2001-have, 6000-st.Used(), 6001-st.Used())
	offset := fmt.Sprintf("Upload-Offset: %d", pick(s, have, have, have, have, have, have+1))
	return s.write(pick(s, "PATCH", "PATCH", "PATCH", "PATCH", "PUT"), target, some(min(max(n, 0), 3999)), spoken, ofPiece, offset)
}

// anything answers bytes that may come on a connection: requests, most of them
// whole, now and then such as fail.
func (s *source) anything(st *store.Store) string {
	out := ""
	for range 1 + s.below(3) {
		switch s.below(12) {
		case 0:
			out += "\r\n"
		case 1:
			out += ask(pick(s, "GET", "POST"), pick(s, "/", "/forms", "/form/", "/form"), some(s.below(5)))
		case 2:
			if s.below(3) == 0 {
				out += pick(s, "x\r\n", some(201), "\n", "GET / HTTP/1.1\r\n\r\n", ask("PATCH", "/files/1", some(3), "Content-Length: 4"))
			}
		case 3, 4, 5, 6:
			out += s.aForm(st)
		default:
			out += s.aPiece(st)
		}
	}
	return out
}

// stir does something beside bytes that may come between them. True: the
// connection is a new one.
func (s *source) stir(t *testing.T, b both, k int) bool {
	id := s.anUpload(b.g.Store).ID
	switch s.below(20) {
	case 0, 1:
		b.gone(t, k)
		return true
	case 2, 3:
		b.g.Drop(id)
		b.twin.st.Drop(id)
	case 6:
		b.g.Begin(id)
		b.twin.st.Begin(id)
	case 7:
		b.crash(t, pick(s, 0, 3, 100), false)
	case 8:
		if s.below(4) == 0 {
			b.crash(t, pick(s, 0, 3, 100), true)
			return true
		}
	}
	return false
}

// met counts the statuses of replies.
type met map[string]int

func (m met) add(out string) {
	for _, x := range strings.Split(out, "HTTP/1.1 ")[1:] {
		m[x[:3]]++
	}
}

func TestLongWalks(t *testing.T) {
	seen := met{}
	pieces := 0
	for seed := range 40 {
		from := source(seed)
		b := newBoth(func(*store.Store) {})
		if seed%4 == 3 {
			// As good as full, so that forms have no room.
			n := 100000 - from.below(9000)
			b = newBoth(func(st *store.Store) { pad(t, st, n) })
		}
		var rest [4]string // what came in part on a connection
		for range 120 {
			k := from.below(4)
			if rest[k] == "" {
				rest[k] = from.anything(b.g.Store)
			}
			n := pick(&from, len(rest[k]), len(rest[k]), from.below(len(rest[k])+1), min(len(rest[k]), 1), max(0, len(rest[k])-2))
			seen.add(b.feed(t, k, rest[k][:n]))
			rest[k] = rest[k][n:]
			was := b.g.Used()
			if from.stir(t, b, k) {
				rest[k] = ""
			}
			if b.g.Used() > was {
				pieces++
			}
		}
		b.crash(t, 0, true)
	}
	for status, least := range map[string]int{"200": 20, "201": 100, "204": 50, "400": 20, "404": 20, "405": 20, "409": 10, "413": 20, "415": 20, "507": 50} {
		if seen[status] < least {
			t.Errorf("the status %s was met %d times", status, seen[status])
		}
	}
	if pieces < 10 {
		t.Errorf("a connection was gone in the midst of a piece %d times", pieces)
	}
}
