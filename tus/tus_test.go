package tus

import (
	"fmt"
	"math"
	"slices"
	"strings"
	"testing"

	"lighterage/api"
	"lighterage/reply"
	"lighterage/store"
)

const (
	v          = "Tus-Resumable: 1.0.0"
	pieces     = "Content-Type: application/offset+octet-stream"
	allOptions = "204 | Tus-Version: 1.0.0 | Tus-Max-Size: 2000 | Tus-Extension: creation,creation-defer-length,termination"
	noVersion  = "412 | Tus-Version: 1.0.0"
)

// post, patch and other ask in the version that is spoken.
func post(lines ...string) request {
	return request{method: "POST", target: "/files", fields: append([]string{v}, lines...)}
}

func patch(id, offset int, body string, lines ...string) request {
	l := append([]string{v, pieces, fmt.Sprintf("Upload-Offset: %d", offset)}, lines...)
	return request{"PATCH", fmt.Sprintf("/files/%d", id), l, body}
}

func other(method string, id int) request {
	return request{method, fmt.Sprintf("/files/%d", id), []string{v}, ""}
}

// holds: the store has just these uploads, and gives that number next.
func holds(t *testing.T, what string, st *store.Store, next int, want ...api.Upload) {
	t.Helper()
	used, text := 0, ""
	for _, u := range want {
		used += len(u.Bytes)
		text += showOne(u) + "|"
	}
	text += fmt.Sprintf(" used %d next %d", used, next)
	if got := uploads(st); got != text {
		t.Errorf("%s: %q, want %q", what, short(got), short(text))
	}
}

// does: the request has that reply, those entries stand behind all others in
// the log, all of it is made sure of, and a crash changes nothing.
func does(t *testing.T, st *store.Store, q request, want string, entries ...string) {
	t.Helper()
	was, _ := st.Log()
	if got := ask(st, q); got != want {
		t.Errorf("%v: %s, want %s", q, got, want)
	}
	log, sure := st.Log()
	if whole := string(was) + strings.Join(entries, ""); string(log) != whole || sure != len(whole) {
		t.Errorf("%v: the log is %s, %d sure, want %s", q, short(fmt.Sprintf("%q", log)), sure, short(fmt.Sprintf("%q", whole)))
	}
	now := state(st)
	st.Crash(0)
	if behind := state(st); behind != now {
		t.Errorf("%v and a crash: %q, was %q", q, short(behind), short(now))
	}
}

// leaves: the request has that reply, and all is as it was.
func leaves(t *testing.T, st *store.Store, q request, want string) {
	t.Helper()
	was := state(st)
	if got := ask(st, q); got != want {
		t.Errorf("%v: %s, want %s", q, got, want)
	}
	if now := state(st); now != was {
		t.Errorf("%v: %q, was %q", q, short(now), short(was))
	}
}

// of builds a store by steps.
func of(steps ...func(st *store.Store)) *store.Store {
	st := store.New()
	for _, step := range steps {
		step(st)
	}
	return st
}

// one: an upload of that size with those bytes, not made sure of.
func one(size int, bytes string) func(st *store.Store) {
	return func(st *store.Store) {
		id, _ := st.Create(size, "")
		st.Append(id, 0, []byte(bytes))
	}
}

// begun and sent: the last upload is so.
func begun(st *store.Store) { st.Begin(st.Next() - 1) }

func sent(st *store.Store) {
	begun(st)
	st.End(st.Next() - 1)
}

func TestOurs(t *testing.T) {
	for _, target := range []string{"/files", "/files/", "/files/1", "/files/01", "/files//", "/files/ ", "/files/x/y?z", "/files/\x00"} {
		if !Ours(target) {
			t.Errorf("%q is not ours", target)
		}
	}
	for _, target := range []string{"", "/", "/file", "/filesx", "/files1", "/files?", "/files ", " /files", "/Files", "/FILES/1", "files", "files/1", "//files", "/files\x00", "/files\\1", "/form", "/x/files/1", "/take/1"} {
		if Ours(target) {
			t.Errorf("%q is ours", target)
		}
	}
}

// An upload is created, sent in pieces, asked for, and dropped.
func TestALife(t *testing.T) {
	st := store.New()
	u := api.Upload{ID: 1, Size: 5, Meta: "filename YS50eHQ="}
	does(t, st, post("Upload-Length: 5", "Upload-Metadata: filename YS50eHQ="), "201 | Location: /files/1", "\x15\x02\x02\x06filename YS50eHQ=")
	holds(t, "created", st, 2, u)
	head := "200 | Upload-Offset: %d | Upload-Length: 5 | Cache-Control: no-store | Upload-Metadata: filename YS50eHQ="
	leaves(t, st, other("HEAD", 1), fmt.Sprintf(head, 0))
	does(t, st, patch(1, 0, "ab"), "204 | Upload-Offset: 2", "\x06\x03\x02\x01ab")
	u.Bytes = []byte("ab")
	holds(t, "a piece", st, 2, u)
	leaves(t, st, other("HEAD", 1), fmt.Sprintf(head, 2))
	does(t, st, patch(1, 2, "c\x00\xff"), "204 | Upload-Offset: 5", "\x07\x03\x02\x01c\x00\xff")
	u.Bytes = []byte("abc\x00\xff")
	holds(t, "whole", st, 2, u)
	leaves(t, st, other("HEAD", 1), fmt.Sprintf(head, 5))
	leaves(t, st, patch(1, 5, "d"), "413")
	does(t, st, patch(1, 5, ""), "204 | Upload-Offset: 5", "\x04\x03\x02\x01")
	does(t, st, other("DELETE", 1), "204", "\x04\x05\x02\x01")
	holds(t, "dropped", st, 2)
	for _, q := range []request{other("HEAD", 1), patch(1, 5, ""), other("DELETE", 1), other("GET", 1)} {
		leaves(t, st, q, "404")
	}
	does(t, st, post("Upload-Length: 0"), "201 | Location: /files/2", "\x04\x02\x03\x01")
	holds(t, "another one", st, 3, api.Upload{ID: 2})
	leaves(t, st, other("HEAD", 2), "200 | Upload-Offset: 0 | Upload-Length: 0 | Cache-Control: no-store")
}

// One whose length is told later: with the first piece, with a later one, with
// one without bytes.
func TestALengthThatIsToldLater(t *testing.T) {
	create, untold := "\x05\x02\x02\x00m", "200 | Upload-Offset: %d | Upload-Defer-Length: 1 | Cache-Control: no-store | Upload-Metadata: m"
	for with := range 4 {
		st := store.New()
		does(t, st, post("Upload-Defer-Length: 1", "Upload-Metadata: m"), "201 | Location: /files/1", create)
		holds(t, "not told", st, 2, api.Upload{ID: 1, Size: -1, Meta: "m"})
		have, told := "", -1
		for i, piece := range []string{"ab", "c", "", "de"} {
			if told < 0 {
				leaves(t, st, other("HEAD", 1), fmt.Sprintf(untold, len(have)))
			}
			offset := len(have)
			have += piece
			reply := fmt.Sprintf("204 | Upload-Offset: %d", len(have))
			entry := fmt.Sprintf("%c\x03\x02\x01%s", 4+len(piece), piece)
			switch {
			case i == with:
				told = 6
				does(t, st, patch(1, offset, piece, "Upload-Length: 6"), reply, entry, "\x04\x04\x02\x07")
			case i > with && i%2 == 0:
				// It may be told again, if it is the same.
				leaves(t, st, patch(1, offset, piece, "Upload-Length: 7"), "400")
				does(t, st, patch(1, offset, piece, "Upload-Length: 006"), reply, entry)
			default:
				does(t, st, patch(1, offset, piece), reply, entry)
			}
			holds(t, piece, st, 2, api.Upload{ID: 1, Size: told, Meta: "m", Bytes: []byte(have)})
		}
		leaves(t, st, other("HEAD", 1), "200 | Upload-Offset: 5 | Upload-Length: 6 | Cache-Control: no-store | Upload-Metadata: m")
		leaves(t, st, patch(1, 5, "fg"), "413")
		does(t, st, patch(1, 5, "f"), "204 | Upload-Offset: 6", "\x05\x03\x02\x01f")
	}
}

func TestOptions(t *testing.T) {
	for _, l := range [][]string{nil, {v}, {v, v}, {"Tus-Resumable: 0.2.2"}, {"Upload-Length: x", "Upload-Length: x"}, {"Content-Type: a", pieces}} {
		for _, body := range []string{"", "abc"} {
			leaves(t, of(), request{"OPTIONS", "/files", l, body}, allOptions)
			leaves(t, of(mixed), request{"OPTIONS", "/files", l, body}, allOptions)
		}
	}
	leaves(t, of(mixed), request{method: "OPTIONS", target: "/files/"}, noVersion)
	leaves(t, of(mixed), request{method: "OPTIONS", target: "/files/1"}, noVersion)
	leaves(t, of(mixed), request{method: "options", target: "/files"}, noVersion)
	leaves(t, of(mixed), request{"OPTIONS", "/files/", []string{v}, ""}, "404")
	leaves(t, of(mixed), request{"OPTIONS", "/files/1", []string{v}, ""}, "405")
	leaves(t, of(mixed), request{"OPTIONS ", "/files", []string{v}, ""}, "405")
}

func TestVersion(t *testing.T) {
	asked := []request{post("Upload-Length: 5"), post(), patch(1, 2, "a"), other("HEAD", 1), other("DELETE", 1), other("DELETE", 9), other("GET", 1),
		{"PUT", "/files", []string{v}, ""}, {"HEAD", "/form", []string{v}, ""}}
	for _, q := range asked {
		rest := q.fields[1:]
		for _, lines := range []string{"", "Tus-Resumable: ", "Tus-Resumable: 1.0", "Tus-Resumable: 1.0.0.0", "Tus-Resumable: 1.0.1", "Tus-Resumable: 01.0.0", "Tus-Resumable:  1.0.0",
			"Tus-Resumable: 1.0.0 ", "Tus-Resumable: 1.0.0,1.0.0", "Tus-Resumable: v1.0.0", "Tus-Version: 1.0.0", "TusResumable: 1.0.0", "Tus-Resumable : 1.0.0"} {
			q.fields = append(slices.Clone(rest), lines)
			leaves(t, of(mixed), q, noVersion)
		}
		for _, pair := range [][]string{{v, v}, {v, "Tus-Resumable: 0.2.2"}, {"Tus-Resumable: ", v}, {"Tus-Resumable: a", "tus-resumable: b"}} {
			q.fields = append(slices.Clone(pair), rest...)
			leaves(t, of(mixed), q, "400")
			q.fields = append(append(pair[:1:1], rest...), pair[1])
			leaves(t, of(mixed), q, "400")
		}
	}
	for _, name := range []string{"tus-resumable", "TUS-RESUMABLE", "tUS-rESUMABLE"} {
		leaves(t, of(mixed), request{"GET", "/files/1", []string{"Host: a", name + ": 1.0.0", "host: b"}, ""}, "405")
	}
}

// noNumbers: values of fields that are none.
var noNumbers = []string{"", "x", "-1", "+1", " 1", "1 ", "1.0", "1e3", "0x1", "1,1", "0000000001", "1000000000", "9223372036854775808", "18446744073709551617", "\u0661", "1\x00", "five"}

func TestSizesOfACreation(t *testing.T) {
	for value, size := range map[string]int{"0": 0, "1": 1, "007": 7, "000000000": 0, "1999": 1999, "2000": 2000, "000002000": 2000} {
		st := store.New()
		if got := ask(st, post("Upload-Length: "+value)); got != "201 | Location: /files/1" {
			t.Errorf("%q: %s", value, got)
		}
		holds(t, value, st, 2, api.Upload{ID: 1, Size: size})
	}
	for _, value := range []string{"2001", "2002", "4294967296"[:9], "999999999"} {
		leaves(t, of(mixed), post("Upload-Length: "+value), "413")
	}
	for _, value := range noNumbers {
		leaves(t, of(mixed), post("Upload-Length: "+value), "400")
		leaves(t, of(mixed), post("Upload-Length: "+value, "Upload-Defer-Length: 1"), "400")
		leaves(t, of(mixed), post("Upload-Length: 5", "Upload-Length: "+value), "400")
	}
	leaves(t, of(mixed), post("Upload-Length: 5", "Upload-Length: 5"), "400")
	leaves(t, of(mixed), post("Upload-Length: 5", "UPLOAD-length: 5"), "400")
}

func TestSizesThatAreToldLater(t *testing.T) {
	for _, name := range []string{"Upload-Defer-Length", "upload-defer-length", "UPLOAD-DEFER-LENGTH"} {
		st := store.New()
		does(t, st, post(name+": 1"), "201 | Location: /files/1", "\x04\x02\x02\x00")
		holds(t, name, st, 2, api.Upload{ID: 1, Size: -1})
	}
	for _, value := range append([]string{"0", "2", "01", "10", "11", "true", "1;"}, noNumbers...) {
		leaves(t, of(mixed), post("Upload-Defer-Length: "+value), "400")
		leaves(t, of(mixed), post("Upload-Defer-Length: "+value, "Upload-Length: 5"), "400")
		leaves(t, of(mixed), post("Upload-Defer-Length: 1", "Upload-Defer-Length: "+value), "400")
	}
	for _, size := range []string{"0", "1", "2000", "2001", "999999999"} {
		leaves(t, of(mixed), post("Upload-Defer-Length: 1", "Upload-Length: "+size), "400")
		leaves(t, of(mixed), post("Upload-Length: "+size, "Upload-Defer-Length: 1"), "400")
	}
	leaves(t, of(mixed), post("Upload-Defer-Length: 1", "Upload-Defer-Length: 1"), "400")
	// Neither.
	leaves(t, of(mixed), post(), "400")
	leaves(t, of(mixed), post("Upload-Metadata: m", "Content-Length: 5", "Upload-Offset: 0", "Upload-Lengt: 5", "UploadLength: 5"), "400")
}

func TestWhatIsToldOfAnUpload(t *testing.T) {
	for _, meta := range []string{"", "m", "a b,c d", "a\tb", "\xff\x80", "=;\"", some(99), some(100)} {
		st := store.New()
		q := post("upload-METADATA: "+meta, "Upload-Length: 5")
		does(t, st, q, "201 | Location: /files/1", fmt.Sprintf("%c\x02\x02\x06%s", 4+len(meta), meta))
		holds(t, meta, st, 2, api.Upload{ID: 1, Size: 5, Meta: meta})
		want := "200 | Upload-Offset: 0 | Upload-Length: 5 | Cache-Control: no-store"
		if meta != "" {
			want += " | Upload-Metadata: " + meta
		}
		leaves(t, st, other("HEAD", 1), want)
	}
	for meta, want := range map[string]string{some(101): "413", some(4000): "413", "\n" + some(100): "413", some(100) + " ": "413",
		"a\x00": "400", "\x7f": "400", "a\r\nb": "400", " m": "400", "m ": "400", "\tm": "400", "m\t": "400", " ": "400"} {
		for _, size := range []string{"Upload-Length: 5", "Upload-Defer-Length: 1"} {
			leaves(t, of(mixed), post(size, "Upload-Metadata: "+meta), want)
		}
		// The size is told ahead of what may stand in it.
		leaves(t, of(mixed), post("Upload-Length: 2001", "Upload-Metadata: "+meta), "413")
	}
	for _, pair := range [][2]string{{"m", "m"}, {"", ""}, {"m", some(101)}, {"a\n", "b"}} {
		q := post("Upload-Length: 5", "Upload-Metadata: "+pair[0], "Upload-Metadata: "+pair[1])
		leaves(t, of(mixed), q, "400")
		q.fields[1] = "Upload-Length: 2001"
		leaves(t, of(mixed), q, "400")
	}
}

// What a creation does not ask for is not looked at.
func TestACreationLooksAtNothingElse(t *testing.T) {
	st := of()
	q := post("Upload-Length: 5", "Upload-Offset: x", "Upload-Offset: y", "Content-Type: ", "Content-Type: a", "Location: b", "Content-Length: 9")
	q.body = "abc"
	does(t, st, q, "201 | Location: /files/1", "\x04\x02\x02\x06")
	holds(t, "a body", st, 2, api.Upload{ID: 1, Size: 5})
	if got := tell(Do(st, q.head(), nil)); got != "201 | Location: /files/2" {
		t.Errorf("no body: %s", got)
	}
	for _, method := range []string{"GET", "PUT", "HEAD", "PATCH", "DELETE", "post", "POST ", "", "OPTION"} {
		for _, l := range [][]string{{v}, {v, "Upload-Length: 5"}, {v, pieces, "Upload-Offset: 0"}, {v, "Upload-Length: 1", "Upload-Length: 2"}} {
			leaves(t, of(mixed), request{method, "/files", l, ""}, "405")
		}
	}
}

func TestAsManyAsMayBe(t *testing.T) {
	st := store.New()
	for id := 1; id <= 12; id++ {
		does(t, st, post("Upload-Defer-Length: 1"), fmt.Sprintf("201 | Location: /files/%d", id), fmt.Sprintf("\x04\x02%c\x00", id+1))
	}
	leaves(t, st, post("Upload-Defer-Length: 1"), "507")
	leaves(t, st, post("Upload-Length: 0"), "507")
	leaves(t, st, post("Upload-Length: 2001"), "413")
	leaves(t, st, post("Upload-Length: 0", "Upload-Metadata:  m"), "400")
	does(t, st, other("DELETE", 5), "204", "\x04\x05\x06\x01")
	does(t, st, post("Upload-Length: 0"), "201 | Location: /files/13", "\x04\x02\x0e\x01")
	leaves(t, st, post("Upload-Length: 0"), "507")
}

func TestManyNumbers(t *testing.T) {
	st := store.New()
	for id := 1; id <= 130; id++ {
		if got, want := ask(st, post("Upload-Length: 1")), fmt.Sprintf("201 | Location: /files/%d", id); got != want {
			t.Fatalf("%s, want %s", got, want)
		}
		if id < 130 {
			ask(st, other("DELETE", id))
		}
	}
	does(t, st, patch(130, 0, "a"), "204 | Upload-Offset: 1", "\x06\x03\x83\x01\x01a")
	leaves(t, st, other("HEAD", 130), "200 | Upload-Offset: 1 | Upload-Length: 1 | Cache-Control: no-store")
	leaves(t, st, other("HEAD", 13), "404")
	leaves(t, st, other("HEAD", 129), "404")
	leaves(t, st, other("HEAD", 131), "404")
}

func TestTargets(t *testing.T) {
	targets := []string{"/files/", "/files/0", "/files/00", "/files/01", "/files/001", "/files/000000001", "/files/0000000001", "/files/6", "/files/8", "/files/10", "/files/11",
		"/files/12", "/files/1/", "/files/1/1", "/files//1", "/files/ 1", "/files/1 ", "/files/1?", "/files/1?a=b", "/files/1#", "/files/+1", "/files/-1", "/files/-0", "/files/1.0", "/files/1x", "/files/x1",
		"/files/0x1", "/files/1e0", "/files/%31", "/files/\u0661", "/files/1\x00", "/files/1\r\n", "/files/999999999", "/files/100000001", "/files/1000000001", "/files/4294967297", "/files/18446744073709551617",
		"/files/files/1", "/files/../files/1", "/files/" + some(4000), "/files/" + strings.Repeat("1", 4000), "/files?", "/files ", "/filesx", "/files1", "/file", "/Files/1", "/FILES", "files/1", "files", "1", "/1", "", "/", "//files/1", "/x/files/1", "/form", "/take/1"}
	for _, target := range targets {
		for _, q := range []request{other("HEAD", 1), other("DELETE", 1), other("GET", 1), other("OPTIONS", 1), patch(1, 2, "c"), patch(1, 0, "c"), post("Upload-Length: 5")} {
			q.target = target
			leaves(t, of(mixed), q, "404")
		}
		leaves(t, of(mixed), request{method: "HEAD", target: target}, noVersion)
	}
	for _, id := range []int{1, 2, 3, 4, 5, 7} {
		leaves(t, of(mixed), other("GET", id), "405")
	}
}

// The fields of each kind of upload, in their places; nothing is made sure of
// by asking.
func TestHead(t *testing.T) {
	for id, want := range map[int]string{
		1: "200 | Upload-Offset: 2 | Upload-Length: 4 | Cache-Control: no-store | Upload-Metadata: filename a",
		2: "200 | Upload-Offset: 2 | Upload-Defer-Length: 1 | Cache-Control: no-store",
		3: "200 | Upload-Offset: 2 | Upload-Length: 2 | Cache-Control: no-store",
		4: "200 | Upload-Offset: 2 | Upload-Length: 2 | Cache-Control: no-store",
		5: "200 | Upload-Offset: 2 | Upload-Length: 2 | Cache-Control: no-store",
		7: "200 | Upload-Offset: 1999 | Upload-Defer-Length: 1 | Cache-Control: no-store | Upload-Metadata: m",
	} {
		st := of(mixed)
		q := other("HEAD", id)
		leaves(t, st, q, want)
		q.fields = append(q.fields, "Upload-Offset: x", "Upload-Offset: y", "Upload-Length: 9", "Content-Type: a", "Content-Type: b", "Upload-Metadata: other")
		q.body = "abc"
		leaves(t, st, q, want)
	}
	// What was not made sure of is told nevertheless, and may be lost.
	st := of(mixed)
	leaves(t, st, other("HEAD", 2), "200 | Upload-Offset: 2 | Upload-Defer-Length: 1 | Cache-Control: no-store")
	st.Crash(0)
	leaves(t, st, other("HEAD", 2), "200 | Upload-Offset: 0 | Upload-Defer-Length: 1 | Cache-Control: no-store")
}

func TestTypeOfAPiece(t *testing.T) {
	for _, line := range []string{pieces, "content-type: application/offset+octet-stream", "CONTENT-TYPE: APPLICATION/OFFSET+OCTET-STREAM", "Content-Type:  \tapplication/offset+octet-stream ",
		"Content-Type: application/offset+octet-stream; a=b", "Content-Type: application/offset+octet-stream;a=\"b;c\" ; d=e"} {
		st := of(one(-1, "ab"))
		q := patch(1, 2, "c")
		q.fields[1] = line
		does(t, st, q, "204 | Upload-Offset: 3", "\x05\x03\x02\x01c")
	}
	for _, line := range []string{"Accept: application/offset+octet-stream", "Content-Type: ", "Content-Type: application/octet-stream", "Content-Type: application/offset", "Content-Type: application",
		"Content-Type: offset+octet-stream", "Content-Type: application/offset+octet-streams", "Content-Type: application / offset+octet-stream", "Content-Type: application/offset octet-stream",
		"Content-Type: application/offset+octet-stream;", "Content-Type: application/offset+octet-stream; a", "Content-Type: application/offset+octet-stream; a=b; A=c", "Content-Type: application/offset+octet-stream; a=\"b",
		"Content-Type: application/offset+octet-stream x", "Content-Type: application/offset+octet-stream\x00", "Content-Type: \"application/offset+octet-stream\"", "Content-Type: multipart/form-data; boundary=x",
		"Content-Type: application/offset+octet-stream" + strings.Repeat("; a=b", 9), "Content-Type: application/offset+octet-stream, application/offset+octet-stream"} {
		for _, offset := range []int{2, 0} {
			q := patch(1, offset, "c")
			q.fields[1] = line
			leaves(t, of(one(-1, "ab")), q, "415")
		}
	}
	for _, line := range []string{pieces, "content-type: text/plain", "Content-Type: "} {
		leaves(t, of(one(-1, "ab")), patch(1, 2, "c", line), "400")
	}
}

func TestOffsetOfAPiece(t *testing.T) {
	for _, value := range []string{"2", "02", "000000002"} {
		q := patch(1, 0, "c")
		q.fields[2] = "uPLOAD-oFFSET: " + value
		does(t, of(one(-1, "ab")), q, "204 | Upload-Offset: 3", "\x05\x03\x02\x01c")
	}
	for _, value := range []string{"0", "1", "3", "4", "12", "20", "2000", "2001", "999999999"} {
		q := patch(1, 0, "c")
		q.fields[2] = "Upload-Offset: " + value
		leaves(t, of(one(-1, "ab")), q, "409")
		leaves(t, of(one(2, "ab")), q, "409")
		leaves(t, of(one(2, "ab"), begun), q, "409")
		// It is told ahead of what the length is.
		q.fields = append(q.fields, "Upload-Length: x", "Upload-Length: 2001")
		leaves(t, of(one(-1, "ab")), q, "409")
	}
	for _, value := range noNumbers {
		q := patch(1, 0, "c")
		q.fields[2] = "Upload-Offset: " + value
		leaves(t, of(one(-1, "ab")), q, "400")
	}
	q := patch(1, 2, "c")
	q.fields = q.fields[:2]
	leaves(t, of(one(-1, "ab")), q, "400")
	leaves(t, of(one(-1, "ab")), patch(1, 2, "c", "Upload-Offset: 2"), "400")
	leaves(t, of(one(-1, "ab")), patch(1, 2, "c", "upload-offset: 3"), "400")
	leaves(t, of(one(-1, "ab")), patch(1, 1, "c", "Upload-Offset: 2"), "400")
}

func TestLengthOfAPiece(t *testing.T) {
	for _, value := range noNumbers {
		for _, size := range []int{-1, 4} {
			leaves(t, of(one(size, "ab")), patch(1, 2, "c", "Upload-Length: "+value), "400")
			leaves(t, of(one(size, "ab")), patch(1, 2, "c", "Upload-Length: 4", "Upload-Length: "+value), "400")
		}
	}
	leaves(t, of(one(-1, "ab")), patch(1, 2, "c", "Upload-Length: 4", "upload-length: 4"), "400")
	leaves(t, of(one(4, "ab")), patch(1, 2, "c", "Upload-Length: 4", "Upload-Length: 4"), "400")
	// Another one was told, or that one.
	for _, value := range []string{"0", "2", "3", "5", "2000", "2001", "999999999"} {
		leaves(t, of(one(4, "ab")), patch(1, 2, "c", "Upload-Length: "+value), "400")
		leaves(t, of(one(4, "ab")), patch(1, 2, "cdefg", "Upload-Length: "+value), "400")
	}
	does(t, of(one(4, "ab")), patch(1, 2, "c", "upload-length: 04"), "204 | Upload-Offset: 3", "\x05\x03\x02\x01c")
	leaves(t, of(one(4, "ab")), patch(1, 2, "cde", "Upload-Length: 4"), "413")
	// None was told.
	for value, declare := range map[string]string{"3": "\x04\x04\x02\x04", "4": "\x04\x04\x02\x05", "126": "\x04\x04\x02\x7f", "127": "\x05\x04\x02\x80\x01", "2000": "\x05\x04\x02\xd1\x0f"} {
		st := of(one(-1, "ab"))
		does(t, st, patch(1, 2, "c", "UPLOAD-LENGTH: "+value), "204 | Upload-Offset: 3", "\x05\x03\x02\x01c", declare)
		leaves(t, st, other("HEAD", 1), "200 | Upload-Offset: 3 | Upload-Length: "+value+" | Cache-Control: no-store")
	}
	for _, value := range []string{"0", "1", "2", "2001", "2002", "999999999"} {
		leaves(t, of(one(-1, "ab")), patch(1, 2, "c", "Upload-Length: "+value), "413")
	}
	st := of(one(-1, ""))
	does(t, st, patch(1, 0, "", "Upload-Length: 0"), "204 | Upload-Offset: 0", "\x04\x03\x02\x01", "\x04\x04\x02\x01")
	leaves(t, st, patch(1, 0, "a"), "413")
	leaves(t, st, patch(1, 0, "", "Upload-Length: 1"), "400")
	// That a length is told later is no question of a piece.
	does(t, of(one(-1, "ab")), patch(1, 2, "c", "Upload-Defer-Length: x", "Upload-Defer-Length: 1", "Upload-Metadata: n"), "204 | Upload-Offset: 3", "\x05\x03\x02\x01c")
}

func TestSizesOfPieces(t *testing.T) {
	all := some(2000)
	does(t, of(one(-1, "")), patch(1, 0, all), "204 | Upload-Offset: 2000", "\xd4\x0f\x03\x02\x01"+all)
	does(t, of(one(2000, "")), patch(1, 0, all), "204 | Upload-Offset: 2000", "\xd4\x0f\x03\x02\x01"+all)
	does(t, of(one(-1, "")), patch(1, 0, all, "Upload-Length: 2000"), "204 | Upload-Offset: 2000", "\xd4\x0f\x03\x02\x01"+all, "\x05\x04\x02\xd1\x0f")
	does(t, of(one(-1, all[1:])), patch(1, 1999, "y"), "204 | Upload-Offset: 2000", "\x05\x03\x02\x01y")
	for _, n := range []int{2001, 4000, 6001, 99000} {
		leaves(t, of(one(-1, "")), patch(1, 0, some(n)), "413")
		leaves(t, of(one(2000, "")), patch(1, 0, some(n)), "413")
		leaves(t, of(one(-1, "")), patch(1, 0, some(n), "Upload-Length: 2000"), "413")
		leaves(t, of(one(-1, "")), patch(1, 0, some(n), "Upload-Length: 2001"), "413")
	}
	// What has no room in any log.
	for _, n := range []int{99940, 100000, 1 << 20, 1 << 24} {
		leaves(t, of(one(-1, "")), patch(1, 0, some(n)), "507")
		leaves(t, of(one(4, "")), patch(1, 0, some(n)), "507")
		leaves(t, of(one(-1, "")), patch(1, 0, some(n), "Upload-Length: 2000"), "413")
		leaves(t, of(one(4, "")), patch(1, 0, some(n), "Upload-Length: 5"), "400")
	}
	leaves(t, of(one(-1, all)), patch(1, 2000, "y"), "413")
	leaves(t, of(one(2, "ab")), patch(1, 2, "c"), "413")
	leaves(t, of(one(3, "ab")), patch(1, 2, "cd"), "413")
	does(t, of(one(2, "ab")), patch(1, 2, ""), "204 | Upload-Offset: 2", "\x04\x03\x02\x01")
	does(t, of(one(-1, all)), patch(1, 2000, ""), "204 | Upload-Offset: 2000", "\x04\x03\x02\x01")
	does(t, of(one(-1, all)), patch(1, 2000, "", "Upload-Length: 2000"), "204 | Upload-Offset: 2000", "\x04\x03\x02\x01", "\x05\x04\x02\xd1\x0f")
}

// A body of nil is one without bytes.
func TestNoBody(t *testing.T) {
	for _, body := range [][]byte{nil, {}, []byte("abc")[:0]} {
		st := of(one(-1, "ab"))
		if got := tell(Do(st, patch(1, 2, "").head(), body)); got != "204 | Upload-Offset: 2" {
			t.Errorf("a piece without bytes: %s", got)
		}
		holds(t, "a piece without bytes", st, 2, api.Upload{ID: 1, Size: -1, Bytes: []byte("ab")})
	}
}

func TestAsManyBytesAsMayBe(t *testing.T) {
	st := of(one(-1, some(2000)), one(-1, some(2000)), one(-1, some(1990)), one(5, ""), one(-1, ""))
	leaves(t, st, patch(3, 1990, some(11)), "413")
	leaves(t, st, patch(5, 0, some(11)), "507")
	leaves(t, st, patch(5, 0, some(11), "Upload-Length: 11"), "507")
	leaves(t, st, patch(4, 0, some(6)), "413")
	does(t, st, patch(4, 0, some(5)), "204 | Upload-Offset: 5", "\x09\x03\x05\x01xxxxx")
	leaves(t, st, patch(5, 0, some(6)), "507")
	does(t, st, patch(5, 0, some(5)), "204 | Upload-Offset: 5", "\x09\x03\x06\x01xxxxx")
	leaves(t, st, patch(5, 5, "y"), "507")
	leaves(t, st, patch(5, 5, "y", "Upload-Length: 6"), "507")
	does(t, st, patch(5, 5, "", "Upload-Length: 6"), "204 | Upload-Offset: 5", "\x04\x03\x06\x01", "\x04\x04\x06\x07")
	does(t, st, other("DELETE", 4), "204", "\x04\x05\x05\x01")
	does(t, st, patch(5, 5, "y"), "204 | Upload-Offset: 6", "\x05\x03\x06\x01y")
}

// An upload that is begun to be sent on, or was sent, takes no piece.
func TestWhatIsSent(t *testing.T) {
	for i, far := range []func(st *store.Store){begun, sent} {
		st := of(one(2, "ab"), far)
		for _, q := range []request{patch(1, 2, ""), patch(1, 2, "c"), patch(1, 2, "", "Upload-Length: 2"), patch(1, 0, "ab"), patch(1, 3, "")} {
			leaves(t, st, q, "409")
		}
		leaves(t, st, patch(1, 2, "", "Upload-Length: 3"), "400")
		leaves(t, st, patch(1, 2, some(99940)), "507")
		leaves(t, st, other("HEAD", 1), "200 | Upload-Offset: 2 | Upload-Length: 2 | Cache-Control: no-store")
		holds(t, "sent", st, 2, api.Upload{ID: 1, Size: 2, Bytes: []byte("ab"), Sent: i + 1})
		does(t, st, other("DELETE", 1), "204", "\x04\x05\x02\x01")
		holds(t, "sent, and dropped", st, 2)
	}
}

func TestDelete(t *testing.T) {
	for _, x := range []*store.Store{of(one(-1, "")), of(one(-1, "ab")), of(one(3, "ab")), of(one(2, "ab")), of(one(2, "ab"), begun), of(one(2, "ab"), sent)} {
		q := other("DELETE", 1)
		q.fields = append(q.fields, "Upload-Offset: x", "Content-Type: a", "Content-Type: b", "Upload-Length: 9", "Upload-Length: 8")
		q.body = "abc"
		leaves(t, x, other("DELETE", 2), "404")
		does(t, x, q, "204", "\x04\x05\x02\x01")
		holds(t, "dropped", x, 2)
		leaves(t, x, q, "404")
	}
	st := of(mixed)
	does(t, st, other("DELETE", 3), "204", "\x04\x05\x04\x01")
	var left []int
	for _, u := range st.List() {
		left = append(left, u.ID)
	}
	if fmt.Sprint(left) != "[1 2 4 5 7]" {
		t.Errorf("one of several was dropped: %v are left", left)
	}
}

func TestOtherMethods(t *testing.T) {
	for _, method := range []string{"GET", "PUT", "POST", "OPTIONS", "TRACE", "head", "Head", "patch", "PATCH ", " DELETE", "DELETE\x00", "", "X", some(4000)} {
		for _, id := range []int{1, 2, 4, 5} {
			q := patch(id, 2, "c")
			q.method = method
			leaves(t, of(mixed), q, "405")
			leaves(t, of(mixed), other(method, id), "405")
		}
	}
}

// The log has just room, or lacks a byte.
func TestRoomOfACreation(t *testing.T) {
	for _, x := range []struct {
		lines []string
		entry string
	}{
		{[]string{"Upload-Defer-Length: 1"}, "\x04\x02%c\x00"},
		{[]string{"Upload-Length: 126"}, "\x04\x02%c\x7f"},
		{[]string{"Upload-Length: 127"}, "\x05\x02%c\x80\x01"},
		{[]string{"Upload-Length: 2000", "Upload-Metadata: " + some(100)}, "\x69\x02%c\xd1\x0f" + some(100)},
	} {
		size := len(fmt.Sprintf(x.entry, 1))
		for _, few := range []int{-1, 0, 1, size} {
			st := roomy(t, size-few, mixed)
			if few > 0 {
				leaves(t, st, post(x.lines...), "507")
				continue
			}
			next := st.Next()
			does(t, st, post(x.lines...), fmt.Sprintf("201 | Location: /files/%d", next), fmt.Sprintf(x.entry, next+1))
		}
	}
}

func TestRoomOfAPiece(t *testing.T) {
	untold := func(st *store.Store) { one(-1, "ab")(st) }
	for _, body := range []string{"", "c", some(1998)} {
		for _, lines := range [][]string{nil, {"Upload-Length: 2000"}} {
			for _, few := range []int{-1, 0, 1, 50, 60 + len(body)} {
				st := roomy(t, 60+len(body)-few, untold)
				id := st.Next() - 1
				if few > 0 {
					leaves(t, st, patch(id, 2, body, lines...), "507")
					leaves(t, st, patch(id, 1, body, lines...), "409")
					leaves(t, st, patch(id, 2, body, "Upload-Length: 2001"), "413")
					continue
				}
				log, _ := st.Log()
				if got, want := ask(st, patch(id, 2, body, lines...)), fmt.Sprintf("204 | Upload-Offset: %d", 2+len(body)); got != want {
					t.Errorf("just room: %s, want %s", got, want)
				}
				now, sure := st.Log()
				u, _ := st.Get(id)
				if sure != len(now) || len(now) < len(log)+4+len(body) || string(u.Bytes) != "ab"+body || (u.Size == 2000) != (lines != nil) {
					t.Errorf("just room: %q", short(state(st)))
				}
			}
		}
	}
}

// The chapter names no other reply to DELETE, even if the log has no room: then
// the upload stays, and what was done ahead is made sure of.
func TestRoomOfADelete(t *testing.T) {
	for _, few := range []int{-1, 0, 1, 4} {
		st := roomy(t, 4-few, one(3, "ab"))
		id := st.Next() - 1
		entry := []string{fmt.Sprintf("\x04\x05%c\x01", id+1)}
		if few > 0 {
			entry = nil
		}
		does(t, st, other("DELETE", id), "204", entry...)
		if _, there := st.Get(id); there != (few > 0) {
			t.Errorf("DELETE with room for %d: is it there? %v", 4-few, there)
		}
	}
}

func TestStatusOfACode(t *testing.T) {
	want := map[int]int{api.ErrNone: 404, api.ErrOffset: 409, api.ErrSent: 409, api.ErrLong: 413, api.ErrMany: 507, api.ErrFull: 507}
	for _, code := range append([]int{math.MinInt, -1, math.MaxInt, 100}, api.ErrRange, api.ErrLine, api.ErrChar, api.ErrLong, api.ErrForm, api.ErrName, api.ErrNumber, api.ErrMany,
		api.ErrTwice, api.ErrNone, api.ErrKind, api.ErrLength, api.ErrHost, api.ErrShort, api.ErrClash, api.ErrFull, api.ErrOffset, api.ErrDone, api.ErrSent, api.ErrOther) {
		status := want[code]
		if status == 0 {
			status = 400
		}
		if got := statusOf(code); got != status {
			t.Errorf("the status of the code %d: %d, want %d", code, got, status)
		}
	}
}

// A panic that is none of an exchange's own is not taken for a reply.
func TestOtherPanicsAreNotHidden(t *testing.T) {
	defer func() {
		if recover() == nil {
			t.Errorf("a fault of the program was hidden")
		}
	}()
	caught(func() api.Reply { panic("another one") })
}

// A crash behind each reply that tells that something was done leaves it done,
// whatever was lost of what came later.
func TestCrashes(t *testing.T) {
	for keep := -1; keep <= 12; keep++ {
		st := store.New()
		ask(st, post("Upload-Defer-Length: 1", "Upload-Metadata: m"))
		st.Append(1, 0, []byte("lost"))
		st.Crash(min(keep, 7))
		leaves(t, st, other("HEAD", 1), "200 | Upload-Offset: 0 | Upload-Defer-Length: 1 | Cache-Control: no-store | Upload-Metadata: m")
		ask(st, patch(1, 0, "abc", "Upload-Length: 9"))
		st.Append(1, 3, []byte("defghi"))
		st.Crash(min(keep, 9))
		leaves(t, st, other("HEAD", 1), "200 | Upload-Offset: 3 | Upload-Length: 9 | Cache-Control: no-store | Upload-Metadata: m")
		does(t, st, patch(1, 3, "def"), "204 | Upload-Offset: 6", "\x07\x03\x02\x01def")
		ask(st, other("DELETE", 1))
		st.Create(1, "lost")
		st.Crash(min(keep, 7))
		leaves(t, st, other("HEAD", 1), "404")
		holds(t, "dropped", st, 2)
	}
}

// What was not made sure of ahead is made sure of with what is done.
func TestSyncOfWhatCameAhead(t *testing.T) {
	for _, q := range []request{post("Upload-Length: 1"), patch(2, 2, "c"), other("DELETE", 3)} {
		st := of(mixed)
		ask(st, q)
		was := uploads(st)
		log, sure := st.Log()
		st.Crash(0)
		if uploads(st) != was || sure != len(log) {
			t.Errorf("%v: %d of %d bytes are made sure of", q, sure, len(log))
		}
	}
}

// Each reply can be written.
func TestRepliesAreWritten(t *testing.T) {
	st := of()
	for _, q := range []request{{method: "OPTIONS", target: "/files"}, {}, post(), post("Upload-Length: 2001"), post("Upload-Length: 1", "Upload-Metadata: "+some(100)), other("HEAD", 1), other("HEAD", 2),
		patch(1, 1, ""), patch(1, 0, "a"), {"PATCH", "/files/1", []string{v}, ""}, other("GET", 1), other("DELETE", 1)} {
		r := Do(st, q.head(), []byte(q.body))
		text, code := reply.Write(r)
		if code != 0 || !strings.Contains(string(text), "\r\nTus-Resumable: 1.0.0\r\n") || !strings.HasSuffix(string(text), "\r\nContent-Length: 0\r\n\r\n") {
			t.Errorf("%v: %q, %d", q, text, code)
		}
	}
}

// What is handed in stays as it is, also behind the lists' lengths, and is not
// kept; what is answered is new memory.
func TestMemory(t *testing.T) {
	st := of(one(-1, ""))
	l := list(v, pieces, "Upload-Offset: 0", "Upload-Length: 5", "Upload-Offset: 7", "Tus-Resumable: 2")
	was := fmt.Sprint(l)
	body := []byte("abcdef")
	h := api.Head{Method: "PATCH", Target: "/files/1", Fields: l[:4]}
	r := Do(st, h, body[1:4])
	if got := tell(r); got != "204 | Upload-Offset: 3" {
		t.Errorf("what lies behind the lists was read: %s", got)
	}
	if fmt.Sprint(l) != was || string(body) != "abcdef" {
		t.Errorf("what was handed in became %v, %q", l, body)
	}
	clear(body)
	clear(l)
	holds(t, "what was handed in is changed", st, 2, api.Upload{ID: 1, Size: 5, Bytes: []byte("bcd")})
	if got := tell(r); got != "204 | Upload-Offset: 3" {
		t.Errorf("the reply shares memory: %s", got)
	}
	for _, q := range []request{{method: "OPTIONS", target: "/files"}, {}, other("HEAD", 1), other("HEAD", 2), other("GET", 1), patch(1, 9, "")} {
		first, again := Do(st, q.head(), nil), Do(st, q.head(), nil)
		told := tell(again)
		for _, r := range []api.Reply{first, r} {
			clear(r.Fields[:cap(r.Fields)])
			clear(r.Body[:cap(r.Body)])
		}
		if tell(again) != told || ask(st, q) != told {
			t.Errorf("%v: two replies share memory", q)
		}
	}
	holds(t, "what was answered is changed", st, 2, api.Upload{ID: 1, Size: 5, Bytes: []byte("bcd")})
}

// What is answered hangs on the store and the request alone: neither on other
// stores nor on what else a head tells.
func TestNothingElseMatters(t *testing.T) {
	a, b := of(mixed), of()
	was := state(a)
	ask(b, post("Upload-Length: 4"))
	ask(b, patch(1, 0, "wxyz"))
	if state(a) != was {
		t.Errorf("two stores know of each other")
	}
	for _, minor := range []int{math.MinInt, -1, 0, 1, 2, math.MaxInt} {
		for _, length := range []int{math.MinInt, -1, 0, 1, 5, math.MaxInt} {
			st := of(mixed)
			h := patch(1, 2, "c").head()
			h.Minor, h.Length = minor, length
			if got := tell(Do(st, h, []byte("c"))); got != "204 | Upload-Offset: 3" {
				t.Errorf("Minor %d, Length %d: %s", minor, length, got)
			}
		}
	}
}

// Fields without names, of any bytes, and very many of them.
func TestAnyFields(t *testing.T) {
	st := of(mixed)
	was := state(st)
	for n := range 256 {
		c := string([]byte{byte(n)})
		h := api.Head{Method: "HEAD", Target: "/files/1", Fields: []api.Field{{}, {Name: c, Value: c}, {Name: "Tus-Resumable", Value: "1.0.0"}, {Name: "Tus-Resumable" + c, Value: "2"}}}
		if got := Do(st, h, nil); got.Status != 200 {
			t.Errorf("a field of the byte %d: %s", n, tell(got))
		}
		h.Fields[2].Value = c
		if got := tell(Do(st, h, nil)); got != noVersion {
			t.Errorf("the version of the byte %d: %s", n, got)
		}
		for _, q := range []request{post("Upload-Length: " + c), post("Upload-Defer-Length: " + c)} {
			q.fields = append(q.fields, "Upload-Metadata: \n")
			leaves(t, st, q, "400")
		}
	}
	many := slices.Repeat(list("a: b", ": "), 5000)
	if got := Do(st, api.Head{Method: "HEAD", Target: "/files/1", Fields: append(many, list(v)...)}, nil); got.Status != 200 {
		t.Errorf("many fields: %s", tell(got))
	}
	if state(st) != was {
		t.Errorf("asking changed the store")
	}
}
