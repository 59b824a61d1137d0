package port

import (
	"fmt"
	"slices"
	"strings"
	"testing"

	"lighterage/api"
)

// What requests are written of.
const (
	spoken  = "Tus-Resumable: 1.0.0"
	ofPiece = "Content-Type: application/offset+octet-stream"
	ofForm  = "Content-Type: multipart/form-data; boundary=X"
)

// ask: a request whose length is told, if it has a body.
func ask(method, target, body string, lines ...string) string {
	out := method + " " + target + " HTTP/1.1\r\nHost: a\r\n"
	for _, line := range lines {
		out += line + "\r\n"
	}
	if body != "" {
		out += fmt.Sprintf("Content-Length: %d\r\n", len(body))
	}
	return out + "\r\n" + body
}

// create, patch and other are requests of uploads.
func create(lines ...string) string { return ask("POST", "/files", "", append(lines, spoken)...) }

func patch(id, offset int, body string, lines ...string) string {
	return ask("PATCH", fmt.Sprintf("/files/%d", id), body, append(lines, spoken, ofPiece, fmt.Sprintf("Upload-Offset: %d", offset))...)
}

func other(method string, id int) string {
	return ask(method, fmt.Sprintf("/files/%d", id), "", spoken)
}

func form(parts ...string) string {
	return ask("POST", "/form", strings.Join(parts, "")+"--X--\r\n", ofForm)
}

func file(name, body string) string {
	return "--X\r\nContent-Disposition: form-data; name=a; filename=\"" + name + "\"\r\n\r\n" + body + "\r\n"
}

// tusTold: a reply to a request of an upload.
func tusTold(status string, lines ...string) string {
	out := "HTTP/1.1 " + status + "\r\nTus-Resumable: 1.0.0\r\n"
	for _, line := range lines {
		out += line + "\r\n"
	}
	return out + "Content-Length: 0\r\n\r\n"
}

func createdAt(id int) string {
	return tusTold("201 Created", fmt.Sprintf("Location: /files/%d", id))
}

func offsetAt(n int) string {
	return tusTold("204 No Content", fmt.Sprintf("Upload-Offset: %d", n))
}

func has(n, size int) string {
	return tusTold("200 OK", fmt.Sprintf("Upload-Offset: %d", n), fmt.Sprintf("Upload-Length: %d", size), "Cache-Control: no-store")
}

// told: a reply to another request.
func told(status, body string) string {
	return fmt.Sprintf("HTTP/1.1 %s\r\nContent-Length: %d\r\n\r\n%s", status, len(body), body)
}

// sentOn: what is sent on of an upload.
func sentOn(id int, meta, bytes string) string {
	out := fmt.Sprintf("POST /take/%d HTTP/1.1\r\nHost: inland\r\n", id)
	if meta != "" {
		out += "Upload-Metadata: " + meta + "\r\n"
	}
	return out + fmt.Sprintf("Content-Length: %d\r\n\r\n%s", len(bytes), bytes)
}

// Steps of each kind.
func in(k int, s string) api.Step { return api.Step{Kind: api.SBytes, Conn: k, Bytes: []byte(s)} }
func gone(k int) api.Step         { return api.Step{Kind: api.SDrop, Conn: k} }
func send(id int) api.Step        { return api.Step{Kind: api.SSend, N: id} }
func taken(id int) api.Step       { return api.Step{Kind: api.STold, N: id} }
func crash(keep int) api.Step     { return api.Step{Kind: api.SCrash, N: keep} }
func showStep(x api.Step) string {
	return quote(fmt.Sprintf("%d %d %d %s", x.Kind, x.Conn, x.N, x.Bytes))
}
func show(o Out) string            { return fmt.Sprintf("%d %q %q", o.Code, o.Bytes, o.Up) }
func fails(code int) Out           { return Out{Code: code} }
func answers(s string) Out         { return Out{Bytes: []byte(s)} }
func goes(id int, a, b string) Out { return Out{Up: []byte(sentOn(id, a, b))} }

// says: a step comes to that.
func says(t *testing.T, p *Port, x api.Step, want Out) {
	t.Helper()
	if got := p.Do(x); show(got) != show(want) {
		t.Errorf("%s: %s, want %s", showStep(x), short(show(got)), short(show(want)))
	}
}

// leaves: as says, and all is as it was.
func leaves(t *testing.T, p *Port, x api.Step, want Out) {
	t.Helper()
	was := state(p)
	says(t, p, x, want)
	if now := state(p); now != was {
		t.Errorf("%s: %s, was %s", showStep(x), quote(now), quote(was))
	}
}

// does: as says; those entries stand behind all others in the log, all of it is
// made sure of, and what a crash leaves is the same.
func does(t *testing.T, p *Port, x api.Step, want Out, entries ...string) {
	t.Helper()
	was, _ := p.Log()
	says(t, p, x, want)
	log, sure := p.Log()
	if whole := string(was) + strings.Join(entries, ""); string(log) != whole || sure != len(whole) {
		t.Errorf("%s: the log is %s, %d sure, want %s", showStep(x), quote(string(log)), sure, quote(whole))
	}
	now := state(p)
	p.Crash(0)
	if behind := state(p); behind != now {
		t.Errorf("%s and a crash: %s, was %s", showStep(x), quote(behind), quote(now))
	}
}

// trails: those uploads were begun to be sent on, in that order.
func trails(t *testing.T, p *Port, want ...int) {
	t.Helper()
	if got := p.Trail(); !slices.Equal(got, want) {
		t.Errorf("Trail: %v, want %v", got, want)
	}
}

// holds: there are just these uploads, each told as its number, its Size, how
// far it was sent on, its Meta and its bytes.
func holds(t *testing.T, p *Port, want ...string) {
	t.Helper()
	var got []string
	for _, u := range p.List() {
		got = append(got, fmt.Sprintf("%d %d %d %s: %s", u.ID, u.Size, u.Sent, u.Meta, u.Bytes))
	}
	if a, b := strings.Join(got, "|"), strings.Join(want, "|"); a != b {
		t.Errorf("uploads: %s, want %s", quote(a), quote(b))
	}
}

// sure: of the log's bytes so many are made sure of.
func sure(t *testing.T, p *Port, wantSure, wantAll int) {
	t.Helper()
	if log, n := p.Log(); n != wantSure || len(log) != wantAll {
		t.Errorf("%d of %d bytes are made sure of, want %d of %d", n, len(log), wantSure, wantAll)
	}
}

// state: all that a port tells of itself, as a text.
func state(p *Port) string {
	log, sure := p.Log()
	var out strings.Builder
	for _, u := range p.List() {
		// The lengths, so that no two uploads are told alike.
		fmt.Fprintf(&out, "%d of %d, %d, %d %d %s %s|", u.ID, u.Size, u.Sent, len(u.Meta), len(u.Bytes), u.Meta, u.Bytes)
	}
	for k := range api.MaxConns {
		fmt.Fprintf(&out, " %v", p.Busy(k))
	}
	fmt.Fprintf(&out, " trail %v used %d next %d sure %d log %d ", p.Trail(), p.Used(), p.Next(), sure, len(log))
	return out.String() + string(log)
}

// whole: an upload that has all its bytes. Its number is answered.
func whole(t *testing.T, p *Port, meta, bytes string) int {
	t.Helper()
	id, code := p.Create(len(bytes), meta)
	if code == 0 && bytes != "" {
		code = p.Append(id, 0, []byte(bytes))
	}
	if code != 0 {
		t.Fatalf("an upload of %d bytes: %d", len(bytes), code)
	}
	p.Sync()
	return id
}

// raise makes id the number that is given next.
func raise(t *testing.T, p *Port, id int) {
	t.Helper()
	for p.Next() < id {
		n, code := p.Create(0, "")
		if code != 0 || p.Drop(n) != 0 {
			t.Fatalf("the number %d can't be", id)
		}
	}
	p.Sync()
}

// pad makes the log one of that many bytes, all made sure of, with no uploads
// but those that there are.
func pad(t *testing.T, p *Port, n int) {
	t.Helper()
	for {
		log, _ := p.Log()
		left := n - len(log)
		if left == 0 {
			break
		}
		both := 2 * len(entry(1, p.Next())) // a Create and a Drop, if nothing is told
		meta, bytes := left-both, 0
		if meta > api.MaxMeta {
			meta = 80
		}
		if left > 3000 {
			meta, bytes = 0, 2000
		}
		id, code := p.Create(-1, some(max(meta, 0)))
		if code == 0 && bytes > 0 {
			code = p.Append(id, 0, []byte(some(bytes)))
		}
		if code != 0 || p.Drop(id) != 0 {
			t.Fatalf("a log of %d bytes can't be", n)
		}
	}
	p.Sync()
}

// entry: that of a step of that kind which tells nothing but the upload.
func entry(kind, id int) string {
	group := string([]byte{byte(id + 1)})
	if id+1 >= 128 {
		group = string([]byte{byte((id+1)%128 + 128), byte((id + 1) / 128)})
	}
	return string([]byte{byte(len(group) + 3), byte(kind + 1)}) + group + "\x01"
}

func begun(id int) string { return entry(5, id) }

func ended(id int) string { return entry(6, id) }

func short(s string) string {
	if len(s) > 600 {
		return s[:300] + " .. " + s[len(s)-300:]
	}
	return s
}

func quote(s string) string { return short(fmt.Sprintf("%q", s)) }

func some(n int) string { return strings.Repeat("x", n) }
