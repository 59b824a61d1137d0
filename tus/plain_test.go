package tus

import (
	"fmt"
	"regexp"
	"slices"
	"strconv"
	"strings"
	"testing"

	"lighterage/api"
	"lighterage/params"
	"lighterage/store"
)

// What stands here is the chapter read plainly: the program is held against
// it.

// request: what is asked, its fields written as lines.
type request struct {
	method, target string
	fields         []string
	body           string
}

func (q request) String() string {
	return fmt.Sprintf("%s %s %q %s", q.method, q.target, q.fields, short(fmt.Sprintf("%q", q.body)))
}

// list makes fields of lines.
func list(lines ...string) []api.Field {
	var l []api.Field
	for _, line := range lines {
		name, value, _ := strings.Cut(line, ": ")
		l = append(l, api.Field{Name: name, Value: value})
	}
	return l
}

func (q request) head() api.Head {
	return api.Head{Method: q.method, Target: q.target, Minor: 1, Fields: list(q.fields...), Length: len(q.body)}
}

// values of the fields of that name, which is in small letters.
func (q request) values(name string) (l []string) {
	for _, line := range q.fields {
		if key, value, _ := strings.Cut(line, ": "); strings.ToLower(key) == name {
			l = append(l, value)
		}
	}
	return l
}

// tell: a reply as a text, the first of its fields left out, as each has it.
func tell(r api.Reply) string {
	if len(r.Fields) == 0 || r.Fields[0] != (api.Field{Name: "Tus-Resumable", Value: "1.0.0"}) || len(r.Body) > 0 {
		return fmt.Sprintf("no reply of the chapter: %+v", r)
	}
	out := strconv.Itoa(r.Status)
	for _, f := range r.Fields[1:] {
		out += " | " + f.Name + ": " + f.Value
	}
	return out
}

func ask(st *store.Store, q request) string { return tell(Do(st, q.head(), []byte(q.body))) }

// state: all that a store tells of itself, as a text.
func state(st *store.Store) string {
	log, sure := st.Log()
	return fmt.Sprintf("%s sure %d log %d ", uploads(st), sure, len(log)) + string(log)
}

func uploads(st *store.Store) string {
	var out strings.Builder
	for _, u := range st.List() {
		out.WriteString(showOne(u) + "|")
	}
	return fmt.Sprintf("%s used %d next %d", out.String(), st.Used(), st.Next())
}

func showOne(u api.Upload) string {
	// The lengths, so that no two uploads are told alike.
	return fmt.Sprintf("%d of %d, %d, %d %d %s %s", u.ID, u.Size, u.Sent, len(u.Meta), len(u.Bytes), u.Meta, u.Bytes)
}

func short(s string) string {
	if len(s) > 400 {
		return s[:200] + " .. " + s[len(s)-200:]
	}
	return s
}

func some(n int) string { return strings.Repeat("x", n) }

var (
	isNumber = regexp.MustCompile(`^[0-9]{1,9}$`)
	isTarget = regexp.MustCompile(`^/files/([1-9][0-9]{0,8})$`)
)

// number: the number of a field; "" or "400"; is it there?
func (q request) number(name string) (n int, reply string, there bool) {
	v := q.values(name)
	switch {
	case len(v) == 0:
		return 0, "", false
	case len(v) > 1 || !isNumber.MatchString(v[0]):
		return 0, "400", true
	}
	n, _ = strconv.Atoi(v[0])
	return n, "", true
}

// plain does to a store what the chapter says, line by line.
func plain(st *store.Store, q request) string {
	if q.method == "OPTIONS" && q.target == "/files" {
		return "204 | Tus-Version: 1.0.0 | Tus-Max-Size: 2000 | Tus-Extension: creation,creation-defer-length,termination"
	}
	switch v := q.values("tus-resumable"); {
	case len(v) > 1:
		return "400"
	case len(v) == 0 || v[0] != "1.0.0":
		return "412 | Tus-Version: 1.0.0"
	}
	if q.target == "/files" {
		return plainCreate(st, q)
	}
	found := isTarget.FindStringSubmatch(q.target)
	if found == nil {
		return "404"
	}
	id, _ := strconv.Atoi(found[1])
	u, there := st.Get(id)
	switch {
	case !there:
		return "404"
	case q.method == "HEAD":
		return plainHead(u)
	case q.method == "PATCH":
		return plainPatch(st, q, u)
	case q.method == "DELETE":
		st.Drop(id)
		st.Sync()
		return "204"
	}
	return "405"
}

func plainCreate(st *store.Store, q request) string {
	if q.method != "POST" {
		return "405"
	}
	size, reply, told := q.number("upload-length")
	if reply != "" {
		return reply
	}
	later := q.values("upload-defer-length")
	if len(later) > 1 || len(later) == 1 && later[0] != "1" {
		return "400"
	}
	if told == (len(later) == 1) {
		return "400"
	}
	if !told {
		size = -1
	}
	meta := append(q.values("upload-metadata"), "")
	if len(meta) > 2 {
		return "400"
	}
	id, code := st.Create(size, meta[0])
	if code != 0 {
		return plainCode(code)
	}
	st.Sync()
	return fmt.Sprintf("201 | Location: /files/%d", id)
}

func plainHead(u api.Upload) string {
	out := fmt.Sprintf("200 | Upload-Offset: %d", len(u.Bytes))
	if u.Size >= 0 {
		out += fmt.Sprintf(" | Upload-Length: %d", u.Size)
	} else {
		out += " | Upload-Defer-Length: 1"
	}
	out += " | Cache-Control: no-store"
	if u.Meta > "" {
		out += " | Upload-Metadata: " + u.Meta
	}
	return out
}

func plainPatch(st *store.Store, q request, u api.Upload) string {
	kind := q.values("content-type")
	if len(kind) > 1 {
		return "400"
	}
	if len(kind) == 0 {
		return "415"
	}
	if m, code := params.Parse(kind[0]); code != 0 || m.Word != "application/offset+octet-stream" {
		return "415"
	}
	offset, reply, there := q.number("upload-offset")
	if reply != "" || !there {
		return "400"
	}
	if offset != len(u.Bytes) {
		return "409"
	}
	size, reply, told := q.number("upload-length")
	will := len(u.Bytes) + len(q.body)
	switch {
	case reply != "":
		return reply
	case told && u.Size >= 0 && u.Size != size:
		return "400"
	case told && u.Size < 0 && (size > 2000 || size < will):
		return "413"
	case !st.Room(len(q.body) + 60):
		return "507"
	}
	if code := st.Append(u.ID, offset, []byte(q.body)); code != 0 {
		return plainCode(code)
	}
	if told && u.Size < 0 {
		if code := st.Declare(u.ID, size); code != 0 {
			panic(fmt.Sprint("Declare: ", code))
		}
	}
	st.Sync()
	return fmt.Sprintf("204 | Upload-Offset: %d", will)
}

func plainCode(code int) string {
	replies := map[int]string{api.ErrNone: "404", api.ErrOffset: "409", api.ErrSent: "409", api.ErrLong: "413", api.ErrMany: "507", api.ErrFull: "507"}
	if reply := replies[code]; reply != "" {
		return reply
	}
	return "400"
}

// both: a store, and another one to which the same is done by plain.
type both struct{ st, twin *store.Store }

func newBoth() both { return both{store.New(), store.New()} }

// do does something to both that is no request.
func (b both) do(step func(st *store.Store)) both {
	step(b.st)
	step(b.twin)
	return b
}

// asks both, holds them against each other, and tells the reply.
func (b both) asks(t *testing.T, q request) string {
	t.Helper()
	was := state(b.twin)
	got, want := ask(b.st, q), plain(b.twin, q)
	if got != want {
		t.Fatalf("%v behind %s: %s, want %s", q, short(fmt.Sprintf("%q", was)), got, want)
	}
	b.alike(t, q.String())
	return got
}

func (b both) alike(t *testing.T, what string) {
	t.Helper()
	if got, want := state(b.st), state(b.twin); got != want {
		t.Fatalf("%s: %q, want %q", what, short(got), short(want))
	}
}

// crash behind a reply: what is left is alike, too.
func (b both) crash(t *testing.T, keep int, what string) {
	t.Helper()
	b.do(func(st *store.Store) { st.Crash(keep) })
	b.alike(t, fmt.Sprintf("%s, and Crash(%d)", what, keep))
}

// mixed: uploads of each kind, some of what was done not made sure of. In a
// new store 1 is told, 2 is not, 3 is whole, 4 begun, 5 sent, 6 dropped, 7
// nearly as long as may be.
func mixed(st *store.Store) {
	first := st.Next()
	st.Create(4, "filename a")
	st.Create(-1, "")
	for range 4 {
		id, _ := st.Create(2, "")
		st.Append(id, 0, []byte("ab"))
	}
	st.Create(-1, "m")
	st.Append(first+6, 0, []byte(some(1999)))
	st.Begin(first + 3)
	st.Begin(first + 4)
	st.End(first + 4)
	st.Drop(first + 5)
	st.Sync()
	st.Append(first, 0, []byte("ab"))
	st.Append(first+1, 0, []byte("ab"))
}

// nearQuota: as mixed, with three bytes more that all uploads may have.
func nearQuota(st *store.Store) {
	mixed(st)
	for _, n := range []int{2000, 6000 - 3 - 2000 - st.Used()} {
		id, _ := st.Create(-1, "")
		st.Append(id, 0, []byte(some(n)))
	}
}

// lines: one line for each value of that field; "-" stands for none at all,
// and a | between values for several fields.
func lines(name string, values ...string) (l [][]string) {
	for _, value := range values {
		var one []string
		if value != "-" {
			for _, v := range strings.Split(value, "|") {
				one = append(one, name+": "+v)
			}
		}
		l = append(l, one)
	}
	return l
}

// products: one of each list, in every way, one behind the other.
func products(lists ...[][]string) [][]string {
	out := [][]string{nil}
	for _, l := range lists {
		var next [][]string
		for _, ahead := range out {
			for _, more := range l {
				next = append(next, append(slices.Clone(ahead), more...))
			}
		}
		out = next
	}
	return out
}

// met counts replies by the method and the status.
type met map[string]int

func (m met) add(q request, reply string) { m[q.method+" "+reply[:3]]++ }

// often: did each of these come, often enough to tell something?
func (m met) often(t *testing.T, least int, l ...string) {
	t.Helper()
	for _, x := range l {
		if m[x] < least {
			t.Errorf("%s was met %d times", x, m[x])
		}
	}
}

// Each method with each target and each version.
func TestEachMethodWithEachTarget(t *testing.T) {
	seen := met{}
	versions := lines("Tus-Resumable", "-", "1.0.0", "1.0.1", "", "1.0.0|1.0.0", "1.0.0|2", " 1.0.0")
	more := products(lines("Upload-Length", "-", "3"), lines("Content-Type", "-", "application/offset+octet-stream"), lines("Upload-Offset", "-", "2"))
	for _, method := range []string{"OPTIONS", "POST", "HEAD", "PATCH", "DELETE", "GET", "PUT", "", "post", "head", "Patch", "DELETE ", "options"} {
		for _, target := range []string{"/files", "/files/", "/files/1", "/files/2", "/files/4", "/files/6", "/files/01", "/files/1/", "/files//1", "/file", "/filesx", "/Files/1", "1", "", "/form"} {
			for _, l := range products(versions, more) {
				q := request{method, target, l, "a"}
				b := newBoth().do(mixed)
				seen.add(q, b.asks(t, q))
				b.crash(t, 0, q.String())
			}
		}
	}
	seen.often(t, 3, "OPTIONS 204", "OPTIONS 412", "OPTIONS 404", "OPTIONS 405", "POST 201", "POST 400", "POST 404", "POST 405", "POST 412",
		"HEAD 200", "HEAD 400", "HEAD 404", "HEAD 405", "HEAD 412", "PATCH 204", "PATCH 400", "PATCH 404", "PATCH 405", "PATCH 412", "PATCH 415",
		"DELETE 204", "DELETE 404", "DELETE 405", "GET 405", "GET 404", "post 405", "head 405", "Patch 405", "DELETE  405", "options 405")
}

// Each kind of field with each other one, where an upload is created.
func TestEachFieldOfACreation(t *testing.T) {
	seen := met{}
	full := func(st *store.Store) {
		mixed(st)
		for range 6 {
			st.Create(0, "")
		}
	}
	all := products(
		lines("Upload-Length", "-", "0", "5", "2000", "2001", "999999999", "1000000000", "", "x", "-1", "5|5", "5|x", "05", " 5"),
		lines("Upload-Defer-Length", "-", "1", "", "0", "01", "2", "1|1", "1 "),
		lines("Upload-Metadata", "-", "", "m", "a b", some(100), some(101), "a\x00", " m", "m|m", "|", some(100)+"\n"))
	for _, set := range []func(st *store.Store){func(*store.Store) {}, mixed, full} {
		for _, l := range all {
			q := request{"POST", "/files", append(l, "Tus-Resumable: 1.0.0"), ""}
			b := newBoth().do(set)
			seen.add(q, b.asks(t, q))
			b.crash(t, 0, q.String())
		}
	}
	seen.often(t, 20, "POST 201", "POST 400", "POST 413", "POST 507")
}

// Each kind of field with each other one, where a piece comes.
func TestEachFieldOfAPiece(t *testing.T) {
	seen := met{}
	all := products(
		lines("Content-Type", "-", "application/offset+octet-stream", "Application/Offset+Octet-Stream ; a=b", "application/octet-stream", "application/offset+octet-stream|application/offset+octet-stream", "application/offset+octet-stream;"),
		lines("Upload-Offset", "-", "2", "02", "1", "3", "1999", "", "x", "2|2", "2|3", "1000000000"),
		lines("Upload-Length", "-", "0", "2", "3", "4", "5", "2000", "2001", "", "x", "4|4"))
	for _, set := range []func(st *store.Store){mixed, nearQuota} {
		for _, target := range []string{"/files/1", "/files/2", "/files/3", "/files/4", "/files/5", "/files/7"} {
			for _, body := range []string{"", "a", "abc", some(4)} {
				b := newBoth().do(set)
				for _, l := range all {
					q := request{"PATCH", target, append([]string{"Tus-Resumable: 1.0.0"}, l...), body}
					reply := b.asks(t, q)
					seen.add(q, reply)
					if reply[0] == '2' {
						b.crash(t, 0, q.String())
						b = newBoth().do(set)
					}
				}
			}
		}
	}
	seen.often(t, 8, "PATCH 204", "PATCH 400", "PATCH 409", "PATCH 413", "PATCH 415", "PATCH 507")
}

// source of numbers that look like any, and are the same each time.
type source uint64

func (s *source) below(n int) int {
	*s = *s*6364136223846793005 + 1442695040888963407
	return int(uint64(*s) >> 33 % uint64(n))
}

func pick[T any](s *source, l ...T) T { return l[s.below(len(l))] }

// any answers a request that is near an edge of what there is.
func (s *source) any(st *store.Store) request {
	id := st.Next() - 1 - s.below(14)
	u, _ := st.Get(id)
	have := len(u.Bytes)
	log, _ := st.Log()
	left := 100000 - len(log)
	q := request{method: pick(s, "POST", "POST", "HEAD", "PATCH", "PATCH", "PATCH", "PATCH", "DELETE", "GET", "OPTIONS")}
	q.target = pick(s, "", "", "", "", "", "", "0", "x/")
	q.target = fmt.Sprintf("/files/%s%d", q.target, id)
	if q.method == "POST" || s.below(20) == 0 {
		q.target = "/files"
	}
	if s.below(30) > 0 {
		q.fields = append(q.fields, "Tus-Resumable: 1.0.0")
	}
	if s.below(30) > 0 {
		q.fields = append(q.fields, "Content-Type: application/offset+octet-stream")
	}
	q.fields = append(q.fields, fmt.Sprintf("Upload-Offset: %d", pick(s, have, have, have, have, have, have, have, have+1, have-1)))
	n := pick(s, 0, 1, 2, 500, u.Size-have, u.Size-have, 2000-have, 2001-have, 6000-st.Used(), 6001-st.Used(), left-60, left-59)
	q.body = some(min(max(n, 0), 7000))
	switch size := fmt.Sprint(pick(s, u.Size, have+len(q.body), have+len(q.body), have+len(q.body)+1, have+len(q.body)-1, 2000, 2001)); s.below(5) {
	case 0, 1:
		q.fields = append(q.fields, "Upload-Length: "+size)
	case 2, 3:
		q.fields = append(q.fields, "Upload-Defer-Length: 1")
	}
	q.fields = append(q.fields, pick(s, lines("Upload-Metadata", "-", "-", "m", some(100), some(101), "m ")...)...)
	return q
}

// stir does something beside requests that may come between them.
func (s *source) stir(t *testing.T, b both) {
	id, keep := b.st.Next()-1-s.below(14), pick(s, 0, 0, 1, 4, 100, 3000)
	switch s.below(12) {
	case 0, 1, 2:
		b.do(func(st *store.Store) { st.Begin(id) })
	case 3:
		b.do(func(st *store.Store) { st.End(id) })
	case 4:
		b.do(func(st *store.Store) { st.Create(-1, "not sure of") })
	case 5:
		b.crash(t, keep, "stir")
	}
}

func TestLongWalks(t *testing.T) {
	seen := met{}
	for seed := range 30 {
		from := source(seed)
		b := newBoth()
		if seed%2 == 1 {
			// As good as full, so that entries have no room.
			n := 100000 - from.below(3000)
			b = both{padded(t, n), padded(t, n)}
		}
		for range 300 {
			q := from.any(b.st)
			seen.add(q, b.asks(t, q))
			from.stir(t, b)
		}
		b.crash(t, 0, "at last")
	}
	seen.often(t, 20, "POST 201", "POST 400", "POST 412", "POST 413", "POST 507", "HEAD 200", "HEAD 404", "PATCH 204", "PATCH 404", "PATCH 409", "PATCH 413",
		"PATCH 415", "PATCH 507", "DELETE 204", "GET 405")
	seen.often(t, 5, "PATCH 400", "PATCH 412", "DELETE 404", "OPTIONS 204", "OPTIONS 405")
}
