package spool

import (
	"fmt"
	"maps"
	"slices"
	"strings"
	"testing"

	"lighterage/api"
)

// plain is a spool as the chapter tells it, with its limits as numbers.
type plain struct {
	uploads map[int]plainUpload
	given   int
}

type plainUpload struct {
	size        int
	meta, bytes string
	sent        int
}

// rule of a chapter's point: is it so, and its code.
type rule struct {
	so   bool
	code int
}

// first: the code of the first rule that is so.
func first(l ...rule) int {
	for _, r := range l {
		if r.so {
			return r.code
		}
	}
	return 0
}

func (p *plain) used() (n int) {
	for _, u := range p.uploads {
		n += len(u.bytes)
	}
	return n
}

func hidden(r rune) bool { return r < 32 && r != 9 || r == 127 }

func (p *plain) create(size int, meta string) (int, int) {
	code := first(
		rule{size < -1, api.ErrRange},
		rule{size > 2000, api.ErrLong},
		rule{len(meta) > 100, api.ErrLong},
		rule{strings.ContainsFunc(meta, hidden), api.ErrChar},
		rule{strings.Trim(meta, " \t") != meta, api.ErrChar},
		rule{len(p.uploads) == 12, api.ErrMany},
	)
	if code != 0 {
		return 0, code
	}
	p.given++
	p.uploads[p.given] = plainUpload{size: size, meta: meta}
	return p.given, 0
}

// set: the upload becomes that one, if none of the rules is so.
func (p *plain) set(id int, to func(u *plainUpload), l ...rule) int {
	u, ok := p.uploads[id]
	code := first(append([]rule{{!ok, api.ErrNone}}, l...)...)
	if code == 0 {
		to(&u)
		p.uploads[id] = u
	}
	return code
}

func (p *plain) append(id, offset int, b string) int {
	u := p.uploads[id]
	return p.set(id, func(u *plainUpload) { u.bytes += b },
		rule{u.sent != 0, api.ErrSent},
		rule{offset != len(u.bytes), api.ErrOffset},
		rule{len(u.bytes)+len(b) > 2000, api.ErrLong},
		rule{u.size >= 0 && len(u.bytes)+len(b) > u.size, api.ErrLong},
		rule{p.used()+len(b) > 6000, api.ErrFull},
	)
}

func (p *plain) declare(id, size int) int {
	u := p.uploads[id]
	return p.set(id, func(u *plainUpload) { u.size = size },
		rule{u.size >= 0, api.ErrDone},
		rule{size < 0, api.ErrRange},
		rule{size > 2000, api.ErrLong},
		rule{size < len(u.bytes), api.ErrLong},
	)
}

func (p *plain) begin(id int) int {
	u := p.uploads[id]
	return p.set(id, func(u *plainUpload) { u.sent = 1 },
		rule{u.sent != 0, api.ErrSent},
		rule{u.size != len(u.bytes), api.ErrShort},
	)
}

func (p *plain) end(id int) int {
	return p.set(id, func(u *plainUpload) { u.sent = 2 }, rule{p.uploads[id].sent != 1, api.ErrSent})
}

func (p *plain) drop(id int) int {
	code := p.set(id, func(*plainUpload) {})
	delete(p.uploads, id)
	return code
}

func (p *plain) copy() *plain { return &plain{maps.Clone(p.uploads), p.given} }

func (p *plain) state() string {
	var l []api.Upload
	for _, id := range slices.Sorted(maps.Keys(p.uploads)) {
		u := p.uploads[id]
		l = append(l, api.Upload{ID: id, Size: u.size, Meta: u.meta, Bytes: []byte(u.bytes), Sent: u.sent})
	}
	return fmt.Sprintf("%s used %d next %d", show(l), p.used(), p.given+1)
}

// both: a spool, and the plain one to which the same was done.
type both struct {
	s *Spool
	p *plain
}

func newBoth() both { return both{New(), &plain{uploads: map[int]plainUpload{}}} }

func (b both) copy() both { return both{b.s.Copy(), b.p.copy()} }

// act: something that is asked of a spool, by its numbers.
type act struct {
	kind  string
	id, n int
	text  string
}

// answer of an act: a number, of a create alone, and a code.
type answer struct{ id, code int }

// do does it to both, and tells what they answered.
func (b both) do(a act) (got, want answer) {
	switch a.kind {
	case "create":
		got.id, got.code = b.s.Create(a.n, a.text)
		want.id, want.code = b.p.create(a.n, a.text)
	case "append":
		got.code, want.code = b.s.Append(a.id, a.n, []byte(a.text)), b.p.append(a.id, a.n, a.text)
	case "declare":
		got.code, want.code = b.s.Declare(a.id, a.n), b.p.declare(a.id, a.n)
	case "drop":
		got.code, want.code = b.s.Drop(a.id), b.p.drop(a.id)
	case "begin":
		got.code, want.code = b.s.Begin(a.id), b.p.begin(a.id)
	case "end":
		got.code, want.code = b.s.End(a.id), b.p.end(a.id)
	}
	return got, want
}

// check does it to both, holds them against each other, and tells the code.
func (b both) check(t *testing.T, a act) int {
	t.Helper()
	was := state(b.s)
	got, want := b.do(a)
	if got != want {
		t.Fatalf("%s %d %d %q, behind %s: %d, want %d", a.kind, a.id, a.n, short(a.text), short(was), got, want)
	}
	if now, want := state(b.s), b.p.state(); now != want {
		t.Fatalf("behind %s %d %d %q: %s, want %s", a.kind, a.id, a.n, short(a.text), short(now), short(want))
	}
	if now := state(b.s); got.code != 0 && now != was {
		t.Fatalf("%s %d %d %q with a code: %s, was %s", a.kind, a.id, a.n, short(a.text), short(now), short(was))
	}
	return got.code
}

// walk does all acts, in each order, with what was done before each of them
// kept by a copy.
func walk(t *testing.T, b both, acts []act, depth int) {
	t.Helper()
	if depth == 0 {
		return
	}
	was := state(b.s)
	for _, a := range acts {
		k := b.copy()
		k.check(t, a)
		walk(t, k, acts, depth-1)
	}
	if got := state(b.s); got != was {
		t.Fatalf("what was copied became %s, was %s", short(got), short(was))
	}
}

func TestAllShortWalks(t *testing.T) {
	acts := []act{
		{kind: "create", n: -1, text: "m"}, {kind: "create", n: 1}, {kind: "create", n: -2},
		{kind: "append", id: 1, text: "a"}, {kind: "append", id: 1, n: 1, text: "b"}, {kind: "append", id: 2, text: "c"}, {kind: "append", id: 2, n: 1},
		{kind: "declare", id: 1, n: 1}, {kind: "declare", id: 2, n: 0},
		{kind: "drop", id: 1}, {kind: "drop", id: 2},
		{kind: "begin", id: 1}, {kind: "begin", id: 2}, {kind: "end", id: 1},
	}
	walk(t, newBoth(), acts, 4)
	b := newBoth()
	b.check(t, acts[0])
	b.check(t, acts[3])
	walk(t, b, acts, 4)
}

// source of numbers that look like any, and are the same each time.
type source uint64

func (s *source) below(n int) int {
	*s = *s*6364136223846793005 + 1442695040888963407
	return int(uint64(*s) >> 33 % uint64(n))
}

func pick[T any](s *source, l ...T) T { return l[s.below(len(l))] }

// any answers an act that is near an edge of what there is.
func (s *source) any(p *plain) act {
	a := act{kind: pick(s, "create", "create", "append", "append", "append", "append", "declare", "drop", "begin", "end")}
	a.id = p.given - s.below(15) + 1
	u := p.uploads[a.id]
	switch a.kind {
	case "create":
		a.n = pick(s, -2, -1, -1, -1, 0, 1, 700, 1999, 2000, 2001)
		a.text = pick(s, "", "m", "a b", strings.Repeat("m", 100), strings.Repeat("m", 101), " m", "m\x00")
	case "append":
		have := len(u.bytes)
		a.n = pick(s, have, have, have, have, have, have-1, have+1, 0)
		n := pick(s, 0, 1, 2, 500, u.size-have, u.size-have+1, 2000-have, 2001-have, 6000-p.used(), 6001-p.used())
		a.text = strings.Repeat(pick(s, "x", "y", "\x00"), max(n, 0))
	case "declare":
		have := len(u.bytes)
		a.n = pick(s, -1, 0, have, have, have-1, have+1, 2000, 2001)
	case "drop":
		a.id -= s.below(3)
	}
	return a
}

// codes that each kind of act may have.
func codes() map[string][]int {
	return map[string][]int{
		"create":  {0, api.ErrRange, api.ErrLong, api.ErrChar, api.ErrMany},
		"append":  {0, api.ErrNone, api.ErrSent, api.ErrOffset, api.ErrLong, api.ErrFull},
		"declare": {0, api.ErrNone, api.ErrDone, api.ErrRange, api.ErrLong},
		"drop":    {0, api.ErrNone},
		"begin":   {0, api.ErrNone, api.ErrSent, api.ErrShort},
		"end":     {0, api.ErrNone, api.ErrSent},
	}
}

func TestLongWalks(t *testing.T) {
	seen := map[string]int{}
	for seed := range 60 {
		from := source(seed)
		l := []both{newBoth(), newBoth()}
		for range 400 {
			at := from.below(2)
			a := from.any(l[at].p)
			other := state(l[1-at].s)
			seen[fmt.Sprint(a.kind, " ", l[at].check(t, a))]++
			if now := state(l[1-at].s); now != other {
				t.Fatalf("the other spool became %s, was %s", short(now), short(other))
			}
			if from.below(50) == 0 {
				l[1-at] = l[at].copy()
			}
		}
	}
	// The walks come by each code often enough to tell something.
	for kind, l := range codes() {
		for _, code := range l {
			if n := seen[fmt.Sprint(kind, " ", code)]; n < 20 {
				t.Errorf("%s with the code %d: %d times", kind, code, n)
			}
		}
	}
}
