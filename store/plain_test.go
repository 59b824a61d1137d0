package store

import (
	"bytes"
	"fmt"
	"slices"
	"strings"
	"testing"

	"lighterage/api"
	"lighterage/spool"
)

// What stands here is the chapter read plainly: the program is held against
// it.

// act: something that is asked of a store, by its numbers.
type act struct {
	kind  string
	id, n int // n: a size, an offset, or what a Crash keeps
	text  string
}

func (a act) String() string {
	return fmt.Sprintf("%s(%d, %d, %q)", a.kind, a.id, a.n, short(a.text))
}

// answer of an act: a number, of a create alone, and a code.
type answer struct{ id, code int }

// doer: a store, or a spool.
type doer interface {
	Create(size int, meta string) (int, int)
	Append(id, offset int, b []byte) int
	Declare(id, size int) int
	Drop(id int) int
	Begin(id int) int
	End(id int) int
}

// ask does one of the six steps.
func ask(to doer, a act) (out answer) {
	switch a.kind {
	case "create":
		out.id, out.code = to.Create(a.n, a.text)
	case "append":
		out.code = to.Append(a.id, a.n, []byte(a.text))
	case "declare":
		out.code = to.Declare(a.id, a.n)
	case "drop":
		out.code = to.Drop(a.id)
	case "begin":
		out.code = to.Begin(a.id)
	case "end":
		out.code = to.End(a.id)
	default:
		panic("no step: " + a.kind)
	}
	return out
}

// kinds of steps, by the numbers that stand for them in a log, from 1 on.
var kinds = []string{"create", "append", "declare", "drop", "begin", "end"}

// number: n + 1 in groups of seven bits.
func number(n int) string {
	if n+1 < 128 {
		return string([]byte{byte(n + 1)})
	}
	return string([]byte{byte(128 + (n+1)%128)}) + number((n+1)/128-1)
}

// entry: the bytes that a step adds to a log; given: the number of an upload
// that was created.
func entry(a act, given int) string {
	id, n, text := a.id, 0, ""
	switch a.kind {
	case "create":
		id, n, text = given, a.n, a.text
	case "append":
		text = a.text
	case "declare":
		n = a.n
	}
	inner := number(1+slices.Index(kinds, a.kind)) + number(id) + number(n) + text
	return number(len(inner)) + inner
}

// moment: how long the log was at some time, and the uploads that there were.
type moment struct {
	size  int
	spool *spool.Spool
}

// plain is a store that looks nothing up in its log: it keeps what there was
// at each time.
type plain struct {
	log     string
	sure    int
	moments []moment
}

func newPlain() *plain { return &plain{moments: []moment{{0, spool.New()}}} }

func (p *plain) spool() *spool.Spool { return p.moments[len(p.moments)-1].spool }

func (p *plain) left() int { return 100000 - len(p.log) }

func (p *plain) step(a act) answer {
	next := p.spool().Copy()
	out := ask(next, a)
	if out.code != 0 {
		return answer{0, out.code}
	}
	b := entry(a, out.id)
	if len(b) > p.left() {
		return answer{0, api.ErrFull}
	}
	p.log += b
	p.moments = append(p.moments, moment{len(p.log), next})
	return out
}

// crash: the last time of which the log has all bytes still.
func (p *plain) crash(keep int) {
	size := p.sure
	for size < len(p.log) && size-p.sure < keep {
		size++
	}
	for p.moments[len(p.moments)-1].size > size {
		p.moments = p.moments[:len(p.moments)-1]
	}
	p.log = p.log[:p.moments[len(p.moments)-1].size]
	p.sure = len(p.log)
}

// both: a store, and the plain one to which the same was done.
type both struct {
	s *Store
	p *plain
}

func newBoth() both { return both{New(), newPlain()} }

// do does it to both, holds them against each other, and tells the code.
func (b both) do(t *testing.T, a act) int {
	t.Helper()
	var got, want answer
	was := state(b.s)
	switch a.kind {
	case "sync":
		b.s.Sync()
		b.p.sure = len(b.p.log)
	case "crash":
		b.s.Crash(a.n)
		b.p.crash(a.n)
	default:
		got, want = ask(b.s, a), b.p.step(a)
	}
	if got != want {
		t.Fatalf("%v behind %q: %v, want %v", a, short(was), got, want)
	}
	if got.code != 0 && state(b.s) != was {
		t.Fatalf("%v with a code: %q, was %q", a, short(state(b.s)), short(was))
	}
	b.alike(t, a.String())
	return got.code
}

// all does them one behind the other.
func (b both) all(t *testing.T, l ...act) {
	t.Helper()
	for _, a := range l {
		if code := b.do(t, a); code != 0 {
			t.Fatalf("%v: %d, want 0", a, code)
		}
	}
}

func (b both) alike(t *testing.T, what string) {
	t.Helper()
	log, sure := b.s.Log()
	if string(log) != b.p.log || sure != b.p.sure {
		t.Fatalf("%s: the log is %d bytes %s, %d sure; want %d bytes %s, %d sure", what, len(log), short(fmt.Sprint(log)), sure, len(b.p.log), short(fmt.Sprint([]byte(b.p.log))), b.p.sure)
	}
	if got, want := uploads(b.s.Spool), uploads(b.p.spool()); got != want {
		t.Fatalf("%s: %s, want %s", what, short(got), short(want))
	}
	if b.s.Used() != b.p.spool().Used() || b.s.Next() != b.p.spool().Next() {
		t.Fatalf("%s: Used %d, Next %d", what, b.s.Used(), b.s.Next())
	}
	for id := -1; id <= b.s.Next()+1; id++ {
		u, ok := b.s.Get(id)
		w, is := b.p.spool().Get(id)
		if ok != is || showOne(u) != showOne(w) {
			t.Fatalf("%s: Get(%d): %s, %v", what, id, short(showOne(u)), ok)
		}
		if id == 20 {
			break // Those of long walks are told by List.
		}
	}
	left := b.p.left()
	if !b.s.Room(left) || b.s.Room(left+1) || !b.s.Room(0) || b.s.Room(-1) {
		t.Fatalf("%s: Room with %d left", what, left)
	}
}

// state: all that a store tells of itself, as a text.
func state(s *Store) string {
	log, sure := s.Log()
	return fmt.Sprintf("%s sure %d log %s", uploads(s.Spool), sure, log)
}

func uploads(s *spool.Spool) string {
	var out strings.Builder
	for _, u := range s.List() {
		out.WriteString(showOne(u) + "|")
	}
	return fmt.Sprintf("%s used %d next %d", out.String(), s.Used(), s.Next())
}

func showOne(u api.Upload) string {
	return fmt.Sprintf("%d of %d %q %q %d", u.ID, u.Size, u.Meta, u.Bytes, u.Sent)
}

func short(s string) string {
	if len(s) > 400 {
		return s[:200] + " .. " + s[len(s)-200:]
	}
	return s
}

func some(n int) []byte { return bytes.Repeat([]byte("x"), n) }

// walk does the acts in each order, up to that many, from what was done on.
func walk(t *testing.T, done, acts []act, depth int) {
	t.Helper()
	b := newBoth()
	for _, a := range done {
		b.do(t, a)
	}
	if depth == 0 {
		return
	}
	for _, a := range acts {
		walk(t, append(slices.Clone(done), a), acts, depth-1)
	}
}

func TestAllShortWalks(t *testing.T) {
	acts := []act{
		{kind: "create", n: 1, text: "m"}, {kind: "create", n: -1},
		{kind: "append", id: 1, text: "a"}, {kind: "declare", id: 2, n: 0},
		{kind: "drop", id: 1}, {kind: "begin", id: 1}, {kind: "end", id: 1},
		{kind: "sync"}, {kind: "crash"}, {kind: "crash", n: 4}, {kind: "crash", n: 9},
	}
	walk(t, nil, acts, 4)
	walk(t, []act{acts[0], acts[7], acts[2]}, acts, 3)
	walk(t, []act{acts[0], acts[2], acts[7], acts[5]}, acts, 3)
}

// source of numbers that look like any, and are the same each time.
type source uint64

func (s *source) below(n int) int {
	*s = *s*6364136223846793005 + 1442695040888963407
	return int(uint64(*s) >> 33 % uint64(n))
}

func pick[T any](s *source, l ...T) T { return l[s.below(len(l))] }

// any answers an act that is near an edge of what there is.
func (s *source) any(p *plain) act {
	a := act{kind: pick(s, "create", "create", "append", "append", "append", "append", "declare", "drop", "begin", "end", "sync", "crash")}
	if a.kind == "crash" && s.below(8) > 0 {
		a.kind = "append"
	}
	a.id = p.spool().Next() - 1 - s.below(14)
	u, _ := p.spool().Get(a.id)
	have := len(u.Bytes)
	switch a.kind {
	case "create":
		a.n = pick(s, -2, -1, -1, -1, 0, 1, 126, 127, 128, 700, 2000, 2001)
		a.text = pick(s, "", "m", "a b", strings.Repeat("m", 100), strings.Repeat("m", 101), " m", "m\x00")
	case "append":
		a.n = pick(s, have, have, have, have, have, have-1, have+1)
		n := pick(s, 0, 1, 2, 500, u.Size-have, u.Size-have, 2000-have, 2001-have, 6001-p.spool().Used(), p.left()-6, p.left()-7)
		a.text = strings.Repeat(pick(s, "x", "\x04\x02\x02\x05", "\x00"), max(n, 0)+1)[:min(max(n, 0), 7000)]
	case "declare":
		a.n = pick(s, -1, 0, have, have, have-1, have+1, 2000, 2001)
	case "crash":
		a.n = pick(s, -1, 0, 3, s.below(300), s.below(9000), len(p.log)-p.sure-1, len(p.log)-p.sure, 100001)
	}
	return a
}

// codes that each kind of act may have.
func codes() map[string][]int {
	return map[string][]int{
		"create":  {0, api.ErrRange, api.ErrLong, api.ErrChar, api.ErrMany, api.ErrFull},
		"append":  {0, api.ErrNone, api.ErrSent, api.ErrOffset, api.ErrLong, api.ErrFull},
		"declare": {0, api.ErrNone, api.ErrDone, api.ErrRange, api.ErrLong, api.ErrFull},
		"drop":    {0, api.ErrNone, api.ErrFull},
		"begin":   {0, api.ErrNone, api.ErrSent, api.ErrShort, api.ErrFull},
		"end":     {0, api.ErrNone, api.ErrSent, api.ErrFull},
		"sync":    {0},
		"crash":   {0},
	}
}

func TestLongWalks(t *testing.T) {
	seen := map[string]int{}
	for seed := range 60 {
		from := source(seed)
		b := newBoth()
		if seed%2 == 1 {
			// As good as full, so that entries have no room.
			b.all(t, act{kind: "create", n: -1}, act{kind: "create"}, act{kind: "begin", id: 2})
			fill(t, b.s, 1, 10+from.below(400))
			log, _ := b.s.Log()
			b.p = &plain{log: string(log), moments: []moment{{0, spool.New()}, {len(log), b.s.Copy()}}}
			b.all(t, act{kind: "sync"})
		}
		for range 300 {
			a := from.any(b.p)
			seen[fmt.Sprint(a.kind, " ", b.do(t, a))]++
		}
	}
	// The walks come by each code often enough to tell something.
	for kind, l := range codes() {
		for _, code := range l {
			if n := seen[fmt.Sprint(kind, " ", code)]; n < 5 {
				t.Errorf("%s with the code %d: %d times", kind, code, n)
			}
		}
	}
}
