package tus

import (
	"fmt"
	"slices"
	"testing"

	"lighterage/store"
)

// padded is a store without uploads, whose log has so many bytes, all of them
// made sure of. The numbers that it gave are below 100.
func padded(t *testing.T, n int) *store.Store {
	t.Helper()
	st := store.New()
	for left := n; left > 0; {
		log, _ := st.Log()
		if left = n - len(log); left == 0 {
			break
		}
		// A Create and a Drop have eight bytes beside what is told.
		meta, bytes := 0, 0
		switch {
		case left > 3000:
			bytes = 2000
		case left > 108:
			meta = 84
		default:
			meta = left - 8
		}
		id, code := st.Create(-1, some(meta))
		if code == 0 && bytes > 0 {
			code = st.Append(id, 0, []byte(some(bytes)))
		}
		if code != 0 || st.Drop(id) != 0 {
			t.Fatalf("a log of %d bytes can't be", n)
		}
	}
	st.Sync()
	if st.Next() > 100 {
		t.Fatalf("the next number is %d", st.Next())
	}
	return st
}

// roomy builds a store behind which just so many bytes have room in the log.
// What is built has entries of the same length, whatever its numbers are.
func roomy(t *testing.T, left int, build func(st *store.Store)) *store.Store {
	t.Helper()
	st := store.New()
	build(st)
	log, _ := st.Log()
	st = padded(t, 100000-left-len(log))
	build(st)
	if !st.Room(left) || st.Room(left+1) || st.Next() > 126 {
		t.Fatalf("not just %d bytes have room", left)
	}
	return st
}

// scene: a request and what it is asked of, to be spoilt.
type scene struct {
	method  string
	target  string // "": the upload's
	fields  map[string][]string
	body    string
	told    int // of the upload, which has three bytes; -1: not told
	begun   bool
	others  []int // how many bytes others have
	noRoom  bool  // by one byte
	dropped bool
}

// room that the scene's request asks for in the log.
func (s *scene) room() int {
	if s.method == "POST" {
		return 4 + len(s.fields["Upload-Metadata"][0]) // its entry, with a size below 127
	}
	return len(s.body) + 60
}

// build makes the uploads. What the last one came to is not made sure of.
func (s *scene) build(st *store.Store) {
	for _, n := range s.others {
		id, _ := st.Create(-1, "")
		st.Append(id, 0, []byte(some(n)))
	}
	id, _ := st.Create(s.told, "m")
	st.Sync()
	st.Append(id, 0, []byte("abc"))
	if s.begun {
		st.Begin(id)
	}
	if s.dropped {
		st.Drop(id)
	}
}

func (s *scene) store(t *testing.T) *store.Store {
	t.Helper()
	if s.noRoom {
		return roomy(t, s.room()-1, s.build)
	}
	st := store.New()
	s.build(st)
	return st
}

// request of the scene; its upload was created last.
func (s *scene) request(st *store.Store) request {
	q := request{method: s.method, target: s.target, body: s.body}
	if q.target == "" {
		q.target = fmt.Sprintf("/files/%d", st.Next()-1)
	}
	if q.target == "zero" {
		q.target = fmt.Sprintf("/files/0%d", st.Next()-1)
	}
	for _, name := range []string{"Tus-Resumable", "Content-Type", "Upload-Offset", "Upload-Length", "Upload-Defer-Length", "Upload-Metadata"} {
		for _, value := range s.fields[name] {
			q.fields = append(q.fields, name+": "+value)
		}
	}
	return q
}

// flaw: what makes a request come to a reply, and what no other flaw that
// stands together with it may be about.
type flaw struct {
	name  string
	about []string
	spoil func(s *scene)
	reply string
}

func set(name string, values ...string) func(s *scene) {
	return func(s *scene) { s.fields[name] = values }
}

// ahead: the flaws that the chapter names ahead of all others.
func ahead() []flaw {
	version := []string{"version"}
	return []flaw{
		{"several versions", version, set("Tus-Resumable", "1.0.0", "1.0.0"), "400"},
		{"no version", version, set("Tus-Resumable"), "412 | Tus-Version: 1.0.0"},
		{"another version", version, set("Tus-Resumable", "0.2.2"), "412 | Tus-Version: 1.0.0"},
	}
}

// flaws of a creation, in the chapter's order.
func flawsOfACreation() []flaw {
	length, later, meta := []string{"length"}, []string{"defer"}, []string{"meta"}
	return append(ahead(), []flaw{
		{"another method", []string{"method"}, func(s *scene) { s.method = "PUT" }, "405"},
		{"several lengths", length, set("Upload-Length", "5", "5"), "400"},
		{"a length that is none", length, set("Upload-Length", "five"), "400"},
		{"several that say later", later, set("Upload-Defer-Length", "1", "1"), "400"},
		{"one that says no", later, set("Upload-Defer-Length", "0"), "400"},
		{"both", later, set("Upload-Defer-Length", "1"), "400"},
		{"neither", []string{"length", "defer"}, set("Upload-Length"), "400"},
		{"several told of it", meta, set("Upload-Metadata", "m", "m"), "400"},
		{"too great", length, set("Upload-Length", "2001"), "413"},
		{"too much told of it", meta, set("Upload-Metadata", some(101)), "413"},
		{"told of it what is not visible", meta, set("Upload-Metadata", "m\x7f"), "400"},
		{"told of it what is not trimmed", meta, set("Upload-Metadata", "m "), "400"},
		{"as many as may be", []string{"count"}, func(s *scene) { s.others = make([]int, 11) }, "507"},
		{"no room", []string{"log"}, func(s *scene) { s.noRoom = true }, "507"},
	}...)
}

// flaws of a piece, in the chapter's order. One that is about a length that was
// told stands together with no one that is about one that was not.
func flawsOfAPiece() []flaw {
	target, kind, offset, length := []string{"target"}, []string{"type"}, []string{"offset"}, []string{"length"}
	untold := []string{"length", "told"}
	return append(ahead(), []flaw{
		{"zeros ahead of its number", target, func(s *scene) { s.target = "zero" }, "404"},
		{"it was dropped", target, func(s *scene) { s.dropped = true }, "404"},
		{"several types", kind, set("Content-Type", "application/offset+octet-stream", "application/offset+octet-stream"), "400"},
		{"no type", kind, set("Content-Type"), "415"},
		{"another type", kind, set("Content-Type", "text/plain"), "415"},
		{"no offset", offset, set("Upload-Offset"), "400"},
		{"several offsets", offset, set("Upload-Offset", "3", "3"), "400"},
		{"an offset that is none", offset, set("Upload-Offset", "3x"), "400"},
		{"an offset below", offset, set("Upload-Offset", "2"), "409"},
		{"an offset above", offset, set("Upload-Offset", "4"), "409"},
		{"several lengths", length, set("Upload-Length", "6", "6"), "400"},
		{"a length that is none", length, set("Upload-Length", ""), "400"},
		{"another length was told", length, func(s *scene) {
			s.fields["Upload-Length"] = []string{"9"}
			if s.told < 0 {
				s.told = 10
			}
		}, "400"},
		{"a length that is too great", untold, set("Upload-Length", "2001"), "413"},
		{"a length that is too small", untold, set("Upload-Length", "5"), "413"},
		{"no room", []string{"log"}, func(s *scene) { s.noRoom = true }, "507"},
		{"it is begun to be sent", []string{"told"}, func(s *scene) { s.told, s.begun = 3, true }, "409"},
		{"too long for its size", []string{"told"}, func(s *scene) { s.told = 5 }, "413"},
		{"too long for any", []string{"told", "body"}, func(s *scene) { s.body = some(1998) }, "413"},
		{"too much in all", []string{"quota"}, func(s *scene) { s.others = []int{2000, 2000, 1995} }, "507"},
	}...)
}

func clash(a, b flaw) bool {
	return slices.ContainsFunc(a.about, func(x string) bool { return slices.Contains(b.about, x) })
}

// together: lists of up to so many flaws that may stand together, each in the
// chapter's order.
func together(flaws []flaw, most int) [][]flaw {
	out := [][]flaw{nil}
	var walk func(have []flaw, rest []flaw)
	walk = func(have, rest []flaw) {
		for i, f := range rest {
			if len(have) == most || slices.ContainsFunc(have, func(h flaw) bool { return clash(h, f) }) {
				continue
			}
			next := append(slices.Clone(have), f)
			out = append(out, next)
			walk(next, rest[i+1:])
		}
	}
	walk(nil, flaws)
	return out
}

// spoilt asks a scene with flaws: the reply is that of the first one, and
// nothing is done.
func spoilt(t *testing.T, s *scene, flaws []flaw, good string) {
	t.Helper()
	names, want := []string{}, good
	// From behind, so that one may look at what those behind it did.
	for i := len(flaws) - 1; i >= 0; i-- {
		flaws[i].spoil(s)
		names, want = append(names, flaws[i].name), flaws[i].reply
	}
	st := s.store(t)
	q := s.request(st)
	was := state(st)
	if want == good && s.method == "POST" {
		want = fmt.Sprintf("%s%d", good, st.Next())
	}
	if got := ask(st, q); got != want {
		t.Errorf("%q: %v: %s, want %s", names, q, got, want)
	}
	now := state(st)
	if len(flaws) > 0 && now != was {
		t.Errorf("%q: %v: %q, was %q", names, q, short(now), short(was))
	}
	if len(flaws) == 0 && now == was {
		t.Errorf("%v: nothing was done", q)
	}
}

// Each line alone, and together with those that the chapter names behind it.
func TestOrderOfACreation(t *testing.T) {
	n := 0
	for _, flaws := range together(flawsOfACreation(), 3) {
		s := &scene{method: "POST", target: "/files", told: -1, fields: map[string][]string{
			"Tus-Resumable": {"1.0.0"}, "Upload-Length": {"5"}, "Upload-Metadata": {"m"},
		}}
		spoilt(t, s, flaws, "201 | Location: /files/")
		n++
	}
	if n < 300 {
		t.Errorf("%d ways for flaws to stand together", n)
	}
}

func TestOrderOfAPiece(t *testing.T) {
	n := 0
	for _, flaws := range together(flawsOfAPiece(), 3) {
		s := &scene{method: "PATCH", body: "def", told: -1, fields: map[string][]string{
			"Tus-Resumable": {"1.0.0"}, "Content-Type": {"application/offset+octet-stream"}, "Upload-Offset": {"3"},
		}}
		spoilt(t, s, flaws, "204 | Upload-Offset: 6")
		n++
	}
	if n < 900 {
		t.Errorf("%d ways for flaws to stand together", n)
	}
}

// With any other method than PATCH the flaws of a piece are none, but for those
// of the version and of the target; and OPTIONS of /files has none at all.
func TestOrderOfOtherMethods(t *testing.T) {
	for method, good := range map[string]string{
		"HEAD": "200 | Upload-Offset: 3 | Upload-Length: 10 | Cache-Control: no-store | Upload-Metadata: m",
		"GET":  "405", "POST": "405", "OPTIONS": "405", "patch": "405", "": "405",
	} {
		// Those of its fields and its target.
		for _, flaws := range together(flawsOfAPiece()[:18], 2) {
			s := &scene{method: "PATCH", body: "def", told: 10, fields: map[string][]string{
				"Tus-Resumable": {"1.0.0"}, "Content-Type": {"application/offset+octet-stream"}, "Upload-Offset": {"3"},
			}}
			for _, f := range flaws {
				f.spoil(s)
			}
			want := good
			if len(flaws) > 0 && (flaws[0].about[0] == "version" || flaws[0].about[0] == "target") {
				want = flaws[0].reply
			}
			s.method = method
			st := s.store(t)
			q := s.request(st)
			was := state(st)
			if got := ask(st, q); got != want || state(st) != was {
				t.Errorf("%v: %s, want %s; %q, was %q", q, got, want, short(state(st)), short(was))
			}
			q.method, q.target = "OPTIONS", "/files"
			if got := ask(st, q); got != allOptions || state(st) != was {
				t.Errorf("%v: %s", q, got)
			}
		}
	}
}
