package desk

import (
	"fmt"
	"strings"
	"testing"

	"lighterage/api"
)

// Requests and replies stand here as a desk's lines have them: shown.

const (
	head    = ` HTTP/1.1\r\nHost: a\r\nTus-Resumable: 1.0.0\r\n`
	ofPiece = `Content-Type: application/offset+octet-stream\r\n`
	ofForm  = `Content-Type: multipart/form-data; boundary=X\r\n`
	get     = `GET / HTTP/1.1\r\nHost: a\r\n\r\n`
	later   = `Upload-Defer-Length: 1\r\n`
)

// in: bytes come in on a connection.
func in(k int, text string) string { return fmt.Sprintf("bytes %d %s", k, text) }

func length(n int) string { return fmt.Sprintf(`Upload-Length: %d\r\n`, n) }

func meta(text string) string { return `Upload-Metadata: ` + text + `\r\n` }

func create(lines ...string) string {
	return "POST /files" + head + strings.Join(lines, "") + `\r\n`
}

// patch: a piece of so many bytes, of which text are the first ones.
func patch(id, offset, n int, text string, lines ...string) string {
	return fmt.Sprintf("PATCH /files/%d", id) + head + ofPiece + strings.Join(lines, "") +
		fmt.Sprintf(`Upload-Offset: %d\r\nContent-Length: %d\r\n\r\n`, offset, n) + text
}

func other(method string, id int) string {
	return fmt.Sprintf("%s /files/%d", method, id) + head + `\r\n`
}

// form: one of these parts, whose text has so many bytes in all.
func form(n int, parts ...string) string {
	return `POST /form HTTP/1.1\r\nHost: a\r\n` + ofForm + fmt.Sprintf(`Content-Length: %d\r\n\r\n`, n+len("--X--")) + strings.Join(parts, "") + "--X--"
}

// file: a part of 62 bytes, and those of its name and its text.
func file(name, text string) string {
	return `--X\r\nContent-Disposition: form-data; name=a; filename="` + name + `"\r\n\r\n` + text + `\r\n`
}

// out: a line that tells of a reply.
func out(status, fields, body string) string {
	return `out HTTP/1.1 ` + status + `\r\n` + fields + fmt.Sprintf(`Content-Length: %d\r\n\r\n`, len(strings.ReplaceAll(body, `\n`, "n"))) + body
}

const resumable = `Tus-Resumable: 1.0.0\r\n`

func created(id int) string {
	return out("201 Created", resumable+fmt.Sprintf(`Location: /files/%d\r\n`, id), "")
}

func offsetAt(n int) string {
	return out("204 No Content", resumable+fmt.Sprintf(`Upload-Offset: %d\r\n`, n), "")
}

func has(n, size int) string {
	return out("200 OK", resumable+fmt.Sprintf(`Upload-Offset: %d\r\nUpload-Length: %d\r\nCache-Control: no-store\r\n`, n, size), "")
}

// up: a line that tells of what is sent on: an upload that has n bytes.
func up(id int, field string, n int, text string) string {
	return fmt.Sprintf(`up POST /take/%d HTTP/1.1\r\nHost: inland\r\n`, id) + field + fmt.Sprintf(`Content-Length: %d\r\n\r\n`, n) + text
}

func no(code int) string { return fmt.Sprintf("no %d", code) }

// does: those lines tell that, a line each.
func does(t *testing.T, d *Desk, lines []string, want ...string) {
	t.Helper()
	all := ""
	for _, w := range want {
		all += w + "\n"
	}
	if told, f := d.Do(lines); told != all || f != (api.Fault{}) {
		t.Errorf("%s: %s, %v, want %s", quote(strings.Join(lines, "\n")), quote(told), f, quote(all))
	}
}

// tells: a line tells that.
func tells(t *testing.T, d *Desk, line string, want ...string) {
	t.Helper()
	does(t, d, []string{line}, want...)
}

// leaves: as tells, and all is as it was.
func leaves(t *testing.T, d *Desk, line string, want ...string) {
	t.Helper()
	was := state(d)
	tells(t, d, line, want...)
	if now := state(d); now != was {
		t.Errorf("%s: %s, was %s", quote(line), quote(now), quote(was))
	}
}

// fails: those lines have that fault; nothing is told, and nothing done.
func fails(t *testing.T, d *Desk, lines []string, code, at int) {
	t.Helper()
	was := state(d)
	told, f := d.Do(lines)
	if told != "" || f != (api.Fault{Code: code, At: at}) {
		t.Errorf("%d lines %s: %s, %v, want the fault {%d %d}", len(lines), quote(strings.Join(lines, "|")), quote(told), f, code, at)
	}
	if now := state(d); now != was {
		t.Errorf("a fault %d at %d: %s, was %s", code, at, quote(now), quote(was))
	}
}

// state: all that the port of a desk tells of itself, as a text.
func state(d *Desk) string {
	p := d.Port
	log, sure := p.Log()
	text := ""
	for _, u := range p.List() {
		text += fmt.Sprintf("%d %d %d %q %q|", u.ID, u.Size, u.Sent, u.Meta, u.Bytes)
	}
	for k := range api.MaxConns {
		text += fmt.Sprint(" ", p.Busy(k))
	}
	return text + fmt.Sprintf(" trail %v used %d next %d sure %d log %q", p.Trail(), p.Used(), p.Next(), sure, log)
}

// busyDesk: one that has uploads of each kind, bytes that are not made sure of,
// a request that is begun on the connection 1, and one that failed on 2.
func busyDesk(t *testing.T) *Desk {
	t.Helper()
	d := New()
	does(t, d, []string{
		in(0, create(length(2), meta("m"))), in(0, patch(1, 0, 2, "ab")), in(0, create(length(0))), in(0, create(length(0))), "send 1", "send 2", "told 2", in(1, "GET / HT"), in(2, `x\r\n`),
	}, created(1), offsetAt(2), created(2), created(3), up(1, meta("m"), 2, "ab"), up(2, "", 0, ""), "ok", "ok", out("400 Bad Request", "", ""))
	d.Create(9, "")
	d.Append(4, 0, []byte("ab"))
	if log, sure := d.Log(); len(log)-sure != 10 {
		t.Fatalf("%d bytes are not made sure of", len(log)-sure)
	}
	return d
}

// full leaves a desk's log no room for an entry more. It takes a place for an
// upload.
func full(t *testing.T, d *Desk) {
	t.Helper()
	left := func() int {
		log, _ := d.Log()
		return api.MaxLog - len(log)
	}
	for left() > 1100 {
		id, _ := d.Create(-1, "")
		d.Append(id, 0, make([]byte, 1000))
		d.Drop(id)
	}
	id, _ := d.Create(-1, "")
	for n := left(); n > 0 && d.Append(id, 0, make([]byte, n)) != 0; n-- {
	}
	d.Sync()
	if left() > 3 || d.Next() > 126 {
		t.Fatalf("there is room for %d bytes, and the next number is %d", left(), d.Next())
	}
}

func some(n int) string { return strings.Repeat("x", n) }

func quote(s string) string {
	s = fmt.Sprintf("%q", s)
	if len(s) > 1200 {
		return s[:600] + " .. " + s[len(s)-600:]
	}
	return s
}
