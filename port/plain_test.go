package port

import (
	"fmt"
	"slices"
	"strconv"
	"strings"
	"testing"

	"lighterage/api"
	"lighterage/gate"
	"lighterage/store"
)

// What stands here is the chapter read plainly: the program is held against
// it.

// plain is a store, a gate on it, and what was begun to be sent on.
type plain struct {
	st    *store.Store
	g     *gate.Gate
	trail []int
}

func newPlain() *plain {
	st := store.New()
	return &plain{st: st, g: gate.New(st)}
}

// do tells the code of a step, what is answered, and what is sent on.
func (p *plain) do(x api.Step) (int, string, string) {
	switch x.Kind {
	case 1:
		out, code := p.g.Feed(x.Conn, x.Bytes)
		return code, string(out), ""
	case 2:
		return p.g.Gone(x.Conn), "", ""
	case 3:
		if code := p.st.Begin(x.N); code != 0 {
			return code, "", ""
		}
		p.st.Sync()
		p.trail = append(p.trail, x.N)
		for _, u := range p.st.List() {
			if u.ID == x.N {
				return 0, "", sentOn(u.ID, u.Meta, string(u.Bytes))
			}
		}
	case 4:
		if code := p.st.End(x.N); code != 0 {
			return code, "", ""
		}
		p.st.Sync()
		return 0, "", ""
	case 5:
		p.st.Crash(x.N)
		p.g.Reset()
		return 0, "", ""
	}
	return 11, "", ""
}

// both: a port, and the plain one to which the same is done.
type both struct {
	p    *Port
	twin *plain
}

func newBoth() both { return both{New(), newPlain()} }

func (b both) do(t *testing.T, x api.Step) Out {
	t.Helper()
	was := state(b.p)
	out := b.p.Do(x)
	code, bytes, up := b.twin.do(x)
	if out.Code != code || string(out.Bytes) != bytes || string(out.Up) != up {
		t.Fatalf("%s behind %s: %s, want %d %s %s", showStep(x), quote(was), short(show(out)), code, quote(bytes), quote(up))
	}
	b.alike(t, showStep(x))
	return out
}

func (b both) alike(t *testing.T, what string) {
	t.Helper()
	if got, want := state(b.p), state(&Port{Gate: b.twin.g, trail: b.twin.trail}); got != want {
		t.Fatalf("%s: %s, want %s", what, quote(got), quote(want))
	}
}

// walk does the steps in each order, up to that many, from what was done on.
func walk(t *testing.T, done, steps []api.Step, depth int) {
	t.Helper()
	b := newBoth()
	for _, x := range done {
		b.do(t, x)
	}
	if depth == 0 {
		return
	}
	for _, x := range steps {
		walk(t, append(slices.Clone(done), x), steps, depth-1)
	}
}

func TestAllShortWalks(t *testing.T) {
	steps := []api.Step{
		in(0, create("Upload-Length: 1", "Upload-Metadata: m")), in(1, patch(1, 0, "a")), in(1, form(file("a", ""))), in(2, begunPiece(1, 0, "b")), in(2, other("DELETE", 1)),
		gone(2), send(1), send(2), taken(1), crash(0), crash(9), {Kind: 6, N: 1},
	}
	walk(t, nil, steps, 3)
	walk(t, steps[:2], steps, 3)
	walk(t, []api.Step{steps[0], steps[1], steps[6]}, steps, 3)
	walk(t, []api.Step{steps[2], steps[6], steps[9]}, steps, 2)
}

// source of numbers that look like any, and are the same each time.
type source uint64

func (s *source) below(n int) int {
	*s = *s*6364136223846793005 + 1442695040888963407
	return int(uint64(*s) >> 33 % uint64(n))
}

func pick[T any](s *source, l ...T) T { return l[s.below(len(l))] }

// bytesOf: n bytes of an upload from a place on. What stands where is told by
// its number alone, so that it is seen what should be sent on.
func bytesOf(id, from, n int) string {
	out := make([]byte, n)
	for i := range out {
		out[i] = byte(id*31 + (from+i)*7 + (from+i)>>8)
	}
	return string(out)
}

// world is two ports that are alike, and what the test itself knows of what was
// asked of them.
type world struct {
	both
	source
	rest  [4]string      // what is still to come of a request on a connection
	last  [4]api.Upload  // of which upload it is; Sent: its method, 1: HEAD, 2: PATCH, 3: DELETE, 4: a form
	told  map[int]int    // how many bytes were told of an upload
	metas map[int]string // of all uploads that ever were
	sizes map[int]int
	begun []int
	met   map[string]int
}

// anUpload answers one that there is, most often.
func (w *world) anUpload() api.Upload {
	l := w.p.List()
	if len(l) == 0 || w.below(12) == 0 {
		return api.Upload{ID: w.p.Next() - w.below(3)}
	}
	u := pick(&w.source, l...)
	for range 3 {
		if u.Sent != 0 {
			u = pick(&w.source, l...)
		}
	}
	return u
}

// request answers one, and of what.
func (w *world) request() (string, api.Upload) {
	u := w.anUpload()
	have := len(u.Bytes)
	switch w.below(12) {
	case 0, 1:
		size := pick(&w.source, 0, 1, 2, 9, 10, 300)
		meta := pick(&w.source, "", "", "m", "filename b")
		id := w.p.Next()
		line := fmt.Sprintf("Upload-Length: %d", size)
		if w.below(4) == 0 {
			line = "Upload-Defer-Length: 1"
		}
		if meta == "" {
			return create(line), api.Upload{ID: id}
		}
		return create(line, "Upload-Metadata: "+meta), api.Upload{ID: id}
	case 2:
		size := pick(&w.source, 0, 1, 40)
		return form(file("f", "\x00"+some(size))), api.Upload{Size: size + 1, Sent: 4}
	case 3:
		u.Sent = 1
		return other("HEAD", u.ID), u
	case 4:
		if u.Sent == 2 || w.below(3) == 0 {
			u.Sent = 3
			return other("DELETE", u.ID), u
		}
	case 5:
		return pick(&w.source, "\r\n", ask("GET", "/", "ab"), "x\r\n", some(201), ask("PUT", "/form", "")), api.Upload{}
	}
	n := max(0, pick(&w.source, 0, 1, 2, u.Size-have, u.Size-have, u.Size-have, u.Size-have+1))
	var lines []string
	if u.Size < 0 && w.below(2) == 0 {
		lines = []string{fmt.Sprintf("Upload-Length: %d", have+n+w.below(2))}
	}
	u.Sent = 2
	return patch(u.ID, have, bytesOf(u.ID, have, n), lines...), u
}

// bytes comes in on a connection: the rest of its request, or a part of it.
func (w *world) bytes(t *testing.T, k int) {
	if w.rest[k] == "" {
		w.rest[k], w.last[k] = w.request()
	}
	n := pick(&w.source, len(w.rest[k]), len(w.rest[k]), w.below(len(w.rest[k])+1), max(0, len(w.rest[k])-1))
	out := w.do(t, in(k, w.rest[k][:n]))
	w.rest[k] = w.rest[k][n:]
	if out.Code != 0 {
		w.rest[k] = ""
		return
	}
	if len(out.Bytes) > 0 {
		w.note(t, w.last[k], string(out.Bytes))
	}
}

// note keeps what a reply tells of an upload.
func (w *world) note(t *testing.T, u api.Upload, out string) {
	w.met[out[9:12]]++
	_, behind, found := strings.Cut(out, "\r\nUpload-Offset: ")
	if found {
		digits, _, _ := strings.Cut(behind, "\r\n")
		n, err := strconv.Atoi(digits)
		if err != nil || u.Sent != 1 && u.Sent != 2 {
			t.Fatalf("%s is answered to a request of another kind", quote(out))
		}
		w.told[u.ID] = max(w.told[u.ID], n)
	}
	if u.Sent == 4 && out[9:12] == "201" {
		_, line, _ := strings.Cut(out, "\r\n\r\n")
		digits, _, _ := strings.Cut(line, " ")
		id, _ := strconv.Atoi(digits)
		w.told[id] = u.Size
	}
	if u.Sent == 3 && out[9:12] == "204" {
		delete(w.told, u.ID)
	}
}

// look keeps what is told of each upload, and holds those that are there against
// what was told ahead: bytes that came stay.
func (w *world) look(t *testing.T, what string) {
	t.Helper()
	for _, u := range w.p.List() {
		if _, ok := w.metas[u.ID]; !ok {
			w.metas[u.ID] = u.Meta
		}
		w.sizes[u.ID] = u.Size
		if w.metas[u.ID] != u.Meta {
			t.Fatalf("%s: %d is told %q, was %q", what, u.ID, u.Meta, w.metas[u.ID])
		}
	}
	for id, n := range w.told {
		if u, ok := w.p.Get(id); !ok || len(u.Bytes) < n {
			t.Fatalf("%s: %d has %d bytes, told were %d", what, id, len(u.Bytes), n)
		}
	}
	if got := fmt.Sprint(w.p.Trail()); got != fmt.Sprint(w.begun) {
		t.Fatalf("%s: Trail: %s, want %v", what, got, w.begun)
	}
}

// sends begins to send one on: once alone, and just what came in.
func (w *world) sends(t *testing.T, id int) {
	out := w.do(t, send(id))
	w.met[fmt.Sprint("send ", out.Code)]++
	if out.Code != 0 {
		return
	}
	if slices.Contains(w.begun, id) {
		t.Fatalf("%d is sent on twice", id)
	}
	w.begun = append(w.begun, id)
	body := bytesOf(id, 0, w.sizes[id])
	if w.metas[id] == "filename f" {
		body = "\x00" + some(w.sizes[id]-1)
	}
	if want := sentOn(id, w.metas[id], body); string(out.Up) != want {
		t.Fatalf("sent on: %s, want %s", quote(string(out.Up)), quote(want))
	}
	if w.sizes[id] > 0 {
		w.met["sent with bytes"]++
	}
}

// step does something.
func (w *world) step(t *testing.T) {
	k := w.below(4)
	switch w.below(16) {
	case 0, 1, 2, 3:
		w.sends(t, w.anUpload().ID)
	case 4, 5:
		out := w.do(t, taken(w.anUpload().ID))
		w.met[fmt.Sprint("told ", out.Code)]++
	case 6:
		was := w.p.Used()
		w.do(t, gone(k))
		w.rest[k] = ""
		if w.p.Used() > was {
			w.met["gone in a piece"]++
		}
	case 7:
		w.do(t, crash(pick(&w.source, -1, 0, 3, w.below(50), 100000)))
		w.met["crash"]++
		if w.rest != [4]string{} {
			w.met["crash in a request"]++
		}
		w.rest = [4]string{}
	case 8:
		w.do(t, pick(&w.source, api.Step{Kind: 6 - w.below(2)*6}, in(4, "x"), gone(-1)))
	default:
		w.bytes(t, k)
	}
}

// fill leaves the logs room for so many bytes, if that can be.
func (w *world) fill(t *testing.T, room int) {
	log, _ := w.p.Log()
	n := api.MaxLog - room
	if n-len(log) < 8 || len(w.p.List()) == api.MaxUploads {
		return
	}
	pad(t, w.p, n)
	pad(t, &Port{Gate: w.twin.g}, n)
}

// Whatever steps come: what was answered stays, and nothing is sent on twice.
func TestLongWalks(t *testing.T) {
	met := map[string]int{}
	for seed := range 120 {
		w := &world{both: newBoth(), source: source(seed), told: map[int]int{}, metas: map[int]string{}, sizes: map[int]int{}, met: met}
		full := seed%6 == 5 // or as good as that, so that entries have no room
		if full {
			w.fill(t, 60+w.below(250))
		}
		for i := range 250 {
			w.step(t)
			w.look(t, fmt.Sprintf("walk %d, step %d", seed, i))
			if full && i == 60 {
				w.fill(t, w.below(12))
			}
		}
	}
	for what, least := range map[string]int{"200": 100, "201": 300, "204": 300, "400": 50, "409": 20, "507": 20, "sent with bytes": 200, "gone in a piece": 20, "crash": 500, "crash in a request": 100,
		"send 0": 300, "send 10": 20, "send 14": 100, "send 16": 10, "send 19": 100, "told 0": 100, "told 10": 20, "told 16": 10, "told 19": 100} {
		if met[what] < least {
			t.Errorf("%s was met %d times", what, met[what])
		}
	}
}

// stir does something to the stores themselves that nobody makes sure of.
func (w *world) stir() {
	u := w.anUpload()
	kind, size := w.below(6), w.below(5)-1
	for _, st := range []*store.Store{w.p.Store, w.twin.st} {
		switch kind {
		case 0:
			st.Create(size, "unsure")
		case 1, 2, 3:
			st.Append(u.ID, len(u.Bytes), []byte(some(max(u.Size-len(u.Bytes), 0))))
		case 4:
			st.Declare(u.ID, len(u.Bytes)+size)
		case 5:
			st.Drop(u.ID)
		}
	}
}

// Steps with what is not made sure of between them: what a crash leaves of it,
// and what makes sure of it, is as it should be.
func TestWalksWithWhatIsNotSure(t *testing.T) {
	lost, sent := 0, 0
	for seed := range 80 {
		w := &world{both: newBoth(), source: source(seed + 1000)}
		for range 200 {
			switch w.below(8) {
			case 0, 1, 2:
				w.stir()
			case 3:
				log, sure := w.p.Log()
				w.do(t, crash(pick(&w.source, -1, 0, w.below(20), len(log)-sure-1, len(log)-sure, 100000)))
				if now, _ := w.p.Log(); len(now) < len(log) {
					lost++
				}
				w.rest = [4]string{}
			case 4:
				log, sure := w.p.Log()
				if out := w.do(t, send(w.anUpload().ID)); out.Code == 0 && sure < len(log) {
					sent++
				}
			case 5:
				w.do(t, taken(w.anUpload().ID))
			default:
				k := w.below(4)
				if w.rest[k] == "" {
					w.rest[k], _ = w.request()
				}
				n := w.below(len(w.rest[k]) + 1)
				w.do(t, in(k, w.rest[k][:n]))
				w.rest[k] = w.rest[k][n:]
			}
		}
	}
	if lost < 100 || sent < 50 {
		t.Errorf("something was lost %d times, and made sure of by sending %d times", lost, sent)
	}
}
