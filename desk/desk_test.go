package desk

import (
	"fmt"
	"slices"
	"strings"
	"testing"

	"lighterage/api"
)

// An upload is created, comes over several lines, is listed, sent on, told, and
// dropped.
func TestAnUploadInPieces(t *testing.T) {
	d := New()
	leaves(t, d, "list", "end")
	leaves(t, d, "log", "log 0 0")
	leaves(t, d, "send 1", no(api.ErrNone))
	tells(t, d, in(0, create(length(5), meta("m"))), created(1))
	leaves(t, d, "list", "upload 1 5 0 0 m", "end")
	leaves(t, d, "log", "log 5 5")
	leaves(t, d, "send 1", no(api.ErrShort))
	does(t, d, []string{
		`bytes 1 PATCH /files/1 HTTP/1.1\r`, `bytes 1 \nHost: a\r\nTus-Resum`, `bytes 1 able: 1.0.0\r\nUpload-Offset: 0\r\n`, "",
		`bytes 1 Content-Type: application/offset+octet-stream\x0d\x0A`, `bytes 1 Content-Length: 3\r\n\r\n \x00`, "list", "bytes 1 ", "bytes 1 \\\\", "list", "log",
	}, "ok", "ok", "ok", "ok", "ok", "upload 1 5 0 0 m", "end", "ok", offsetAt(3), "upload 1 5 3 0 m", "end", "log 12 12")
	does(t, d, []string{in(3, patch(1, 3, 2, `\xff\n`)), "send 1", "list", "send 1", "told 1", "list", "told 1", "send 1"},
		offsetAt(5), up(1, meta("m"), 5, ` \x00\\\xff\n`), "upload 1 5 5 1 m", "end", no(api.ErrSent), "ok", "upload 1 5 5 2 m", "end", no(api.ErrSent), no(api.ErrSent))
	leaves(t, d, "log", "log 26 26")
	does(t, d, []string{in(3, other("DELETE", 1)), "list", "send 1", "told 1", "log"}, out("204 No Content", resumable, ""), "end", no(api.ErrNone), no(api.ErrNone), "log 30 30")
	does(t, d, []string{in(3, create(length(0))), "list"}, created(2), "upload 2 0 0 0 ", "end")
}

// A PATCH of nine bytes, of which three came when the connection was gone.
func TestAConnectionThatIsGone(t *testing.T) {
	d := New()
	does(t, d, []string{in(2, create(length(9))), in(2, patch(1, 0, 9, "abc")), "list", "drop 2", "list", in(2, other("HEAD", 1)), in(2, patch(1, 3, 6, "defghi")), "list", "send 1"},
		created(1), "ok", "upload 1 9 0 0 ", "end", "ok", "upload 1 9 3 0 ", "end", has(3, 9), offsetAt(9), "upload 1 9 9 0 ", "end", up(1, "", 9, "abcdefghi"))
}

// What fails on a connection ends with it.
func TestAConnectionThatFailed(t *testing.T) {
	for _, bad := range []string{`POST /form HTTP/1.1\r\nHost: a\r\nContent-Length: 1\r\nContent-Length: 2\r\n\r\n`, `GET / HTTP/1.1\r\nHost: a\r\nContent-Length: 1\r\nTransfer-Encoding: chunked\r\n\r\n`, `x\n`} {
		d := New()
		does(t, d, []string{in(3, bad), in(3, get), "bytes 3 ", in(2, get), "drop 3", in(3, get)},
			out("400 Bad Request", "", ""), no(api.ErrDone), no(api.ErrDone), out("404 Not Found", "", ""), "ok", out("404 Not Found", "", ""))
	}
	tells(t, New(), in(0, some(201)), out("413 Content Too Large", "", ""))
}

// Files of a form land with safe names, and are sent on.
func TestAForm(t *testing.T) {
	d := New()
	text := form(2*62+len("a.txt")+len("hello\r\n")+len("../../etc/.x"), file("a.txt", `hello\r\n`), file("../../etc/.x", ""))
	does(t, d, []string{in(1, text), "list", "send 2", "send 1", "told 2", "list"},
		out("201 Created", "", `1 a.txt\n2 x\n`), "upload 1 7 7 0 filename a.txt", "upload 2 0 0 0 filename x", "end",
		up(2, meta("filename x"), 0, ""), up(1, meta("filename a.txt"), 7, `hello\r\n`), "ok", "upload 1 7 7 1 filename a.txt", "upload 2 0 0 2 filename x", "end")
}

// replies: a line that tells of several, one behind the other.
func replies(l ...string) string {
	text := "out "
	for _, x := range l {
		text += strings.TrimPrefix(x, "out ")
	}
	return text
}

// Several requests in one line, and one over several lines on each connection
// in turn.
func TestRequestsAndLines(t *testing.T) {
	d := New()
	missing := out("404 Not Found", "", "")
	tells(t, d, in(0, create(length(1))+patch(1, 0, 1, "a")+get+"GE"), replies(created(1), offsetAt(1), missing))
	does(t, d, []string{in(0, "T"), in(1, "GET"), in(2, "GET"), in(3, "GET")}, "ok", "ok", "ok", "ok")
	for _, part := range []string{" /", " HTTP/", `1.1\r\nHost: a\r`, `\n\r`} {
		does(t, d, []string{in(0, part), in(1, part), in(2, part), in(3, part)}, "ok", "ok", "ok", "ok")
	}
	does(t, d, []string{in(3, `\n`), in(0, `\n`+get), in(2, `\n`), in(1, `\nx\n`)}, missing, replies(missing, missing), missing, replies(missing, out("400 Bad Request", "", "")))
	does(t, d, []string{in(0, get), in(1, get), in(2, get), in(3, get)}, missing, no(api.ErrDone), missing, missing)
}

// The list tells of each upload, by their numbers.
func TestList(t *testing.T) {
	d := New()
	does(t, d, []string{
		in(0, create(later)), in(0, create(later, meta("a b"))), in(0, create(length(2), meta(`a\x09"b\\\xff\xC3`))), in(0, create(length(2000))), in(0, create(length(0), meta("m"))), in(0, create(length(1))),
		in(0, patch(2, 0, 3, "abc")), in(0, patch(6, 0, 1, "x")), "send 5", "send 6", "told 6",
	}, created(1), created(2), created(3), created(4), created(5), created(6), offsetAt(3), offsetAt(1), up(5, meta("m"), 0, ""), up(6, "", 1, "x"), "ok")
	all := []string{"upload 1 -1 0 0 ", "upload 2 -1 3 0 a b", `upload 3 2 0 0 a\x09"b\\\xff\xc3`, "upload 4 2000 0 0 ", "upload 5 0 0 1 m", "upload 6 1 1 2 ", "end"}
	leaves(t, d, "list", all...)
	does(t, d, []string{"list", "", "list"}, slices.Concat(all, all)...)
	does(t, d, []string{in(1, other("DELETE", 1)), in(1, other("DELETE", 4)), in(1, create(length(7))), in(0, patch(2, 3, 0, "", length(3)))},
		out("204 No Content", resumable, ""), out("204 No Content", resumable, ""), created(7), offsetAt(3))
	leaves(t, d, "list", "upload 2 3 3 0 a b", all[2], all[4], all[5], "upload 7 7 0 0 ", "end")
}

// As many as may be, whose numbers have several digits, and as much as may be.
func TestListOfMany(t *testing.T) {
	d := New()
	d.Create(-1, "")
	d.Drop(1)
	var all []string
	for id := 2; id <= 13; id++ {
		text := strings.Repeat("m", 8*(id-2))
		tells(t, d, in(0, create(length(500), meta(text))), created(id))
		tells(t, d, in(0, patch(id, 0, 500, some(500))), offsetAt(500))
		all = append(all, fmt.Sprintf("upload %d 500 500 0 %s", id, text))
	}
	leaves(t, d, in(0, create(length(0))), out("507 Insufficient Storage", resumable, ""))
	leaves(t, d, "list", append(all, "end")...)
}

// The log is told ahead of a Sync and behind it.
func TestLog(t *testing.T) {
	d := New()
	d.Create(3, "")
	leaves(t, d, "log", "log 4 0")
	d.Sync()
	leaves(t, d, "log", "log 4 4")
	d.Append(1, 0, []byte("ab"))
	leaves(t, d, "log", "log 10 4")
	leaves(t, d, "send 1", no(api.ErrShort))
	leaves(t, d, "log", "log 10 4")
	does(t, d, []string{in(0, patch(1, 2, 1, "c")), "log"}, offsetAt(3), "log 15 15")
	d.Create(0, "m")
	does(t, d, []string{"log", "send 1", "log"}, "log 20 15", up(1, "", 3, "abc"), "log 24 24")
	d.Create(0, "")
	does(t, d, []string{"log", "told 1", "log"}, "log 28 24", "ok", "log 32 32")
	d.Drop(1)
	does(t, d, []string{"log", "crash 4", "log"}, "log 36 32", "ok", "log 36 36")
}

// Of what is not made sure of as much is left as the line says, as far as
// entries are whole; all connections are new ones.
func TestCrash(t *testing.T) {
	for _, x := range []struct {
		keep string
		left int
		list []string
	}{
		{"0", 0, nil}, {"3", 0, nil}, {"4", 4, []string{"upload 4 9 0 0 "}}, {"9", 4, []string{"upload 4 9 0 0 "}},
		{"10", 10, []string{"upload 4 9 2 0 "}}, {"11", 10, []string{"upload 4 9 2 0 "}}, {"999999999", 10, []string{"upload 4 9 2 0 "}},
	} {
		d := busyDesk(t)
		log, sure := d.Log()
		leaves(t, d, "log", fmt.Sprintf("log %d %d", len(log), sure))
		tells(t, d, "crash "+x.keep, "ok")
		leaves(t, d, "log", fmt.Sprintf("log %d %d", sure+x.left, sure+x.left))
		leaves(t, d, "list", slices.Concat([]string{"upload 1 2 2 1 m", "upload 2 0 0 2 ", "upload 3 0 0 0 "}, x.list, []string{"end"})...)
		leaves(t, d, "send 1", no(api.ErrSent))
		leaves(t, d, "crash 5", "ok")
		does(t, d, []string{in(1, get), in(2, get), "told 1", "send 3"}, out("404 Not Found", "", ""), out("404 Not Found", "", ""), "ok", up(3, "", 0, ""))
	}
}

// An upload is begun to be sent on once, whatever crashes come.
func TestCrashesOfAnUpload(t *testing.T) {
	d := New()
	does(t, d, []string{"crash 0", in(0, create(length(1))), "crash 0", in(0, patch(1, 0, 1, "a")), "crash 0", "send 1", "crash 0", "send 1", "list", "told 1", "crash 0", "told 1", "list"},
		"ok", created(1), "ok", offsetAt(1), "ok", up(1, "", 1, "a"), "ok", no(api.ErrSent), "upload 1 1 1 1 ", "end", "ok", "ok", no(api.ErrSent), "upload 1 1 1 2 ", "end")
	// What came of a PATCH is lost with the connection, but for what was answered.
	does(t, d, []string{in(0, create(length(4))+patch(2, 0, 1, "b")), in(0, patch(2, 1, 3, "c")), "crash 100", "drop 0", "list"},
		replies(created(2), offsetAt(1)), "ok", "ok", "ok", "upload 1 1 1 2 ", "upload 2 4 1 0 ", "end")
}

// Each code that a step can come to.
func TestCodesOfSteps(t *testing.T) {
	d := busyDesk(t) // 1 is begun, 2 was sent, 3 is whole, 4 is short.
	for line, code := range map[string]int{
		"bytes 4 ": api.ErrRange, in(4, get): api.ErrRange, "bytes 999999999 x": api.ErrRange, "drop 4": api.ErrRange, "drop 10": api.ErrRange, "drop 999999999": api.ErrRange,
		"bytes 2 ": api.ErrDone, in(2, get): api.ErrDone,
		"send 0": api.ErrNone, "send 5": api.ErrNone, "send 999999999": api.ErrNone, "told 0": api.ErrNone, "told 5": api.ErrNone, "told 999999999": api.ErrNone,
		"send 4": api.ErrShort, "send 1": api.ErrSent, "send 2": api.ErrSent, "told 2": api.ErrSent, "told 3": api.ErrSent, "told 4": api.ErrSent,
	} {
		leaves(t, d, line, no(code))
	}
	for k := range api.MaxConns {
		tells(t, d, fmt.Sprint("drop ", k), "ok")
		tells(t, d, in(k, get), out("404 Not Found", "", ""))
	}
	full(t, d)
	leaves(t, d, "send 3", no(api.ErrFull))
	leaves(t, d, "told 1", no(api.ErrFull))
	leaves(t, d, "send 1", no(api.ErrSent))
	leaves(t, d, in(0, create(length(0))), out("507 Insufficient Storage", resumable, ""))
}

// Codes are told alone: no number stands for another one.
func TestCodesAsNumbers(t *testing.T) {
	d := busyDesk(t)
	does(t, d, []string{"drop 4", "send 9", "send 4", "send 1", "bytes 2 x"}, "no 1", "no 10", "no 14", "no 19", "no 18")
	full(t, d)
	tells(t, d, "send 3", "no 16")
}

// Two desks know nothing of each other.
func TestDesksBesideEachOther(t *testing.T) {
	a, b := New(), New()
	was := state(b)
	does(t, a, []string{in(0, create(length(0))), "send 1", in(1, "GET"), in(2, `x\r\n`)}, created(1), up(1, "", 0, ""), "ok", out("400 Bad Request", "", ""))
	if now := state(b); now != was {
		t.Errorf("another desk: %s, was %s", quote(now), quote(was))
	}
	does(t, b, []string{"list", "log", "send 1", in(1, get), in(2, get), in(0, create(length(2))), "list"},
		"end", "log 0 0", no(api.ErrNone), out("404 Not Found", "", ""), out("404 Not Found", "", ""), created(1), "upload 1 2 0 0 ", "end")
	does(t, a, []string{"list", "bytes 2 ", "drop 2", in(2, create(later))}, "upload 1 0 0 1 ", "end", no(api.ErrDone), "ok", created(2))
	does(t, b, []string{"crash 0", "list", "log"}, "ok", "upload 1 2 0 0 ", "end", "log 4 4")
}
