package store

import (
	"bytes"
	"fmt"
	"math"
	"slices"
	"strings"
	"testing"

	"lighterage/api"
	"lighterage/spool"
)

// A store is a spool, by the chapter's word.
var _ = Store{Spool: spool.New()}

// far: numbers that no upload has.
var far = []int{math.MinInt, -1 << 32, -2, -1, 0, 1<<30 - 1, 1 << 30, 1 << 32, 1<<32 + 1, math.MaxInt}

// holds: the store has just these uploads, and gives that number next.
func holds(t *testing.T, what string, s *Store, next int, want ...api.Upload) {
	t.Helper()
	used, text := 0, ""
	for _, u := range want {
		used += len(u.Bytes)
		text += showOne(u) + "|"
	}
	text += fmt.Sprintf(" used %d next %d", used, next)
	if got := uploads(s.Spool); got != text {
		t.Errorf("%s: %s, want %s", what, short(got), short(text))
	}
	if got := uploads(s.Copy()); got != text {
		t.Errorf("%s: Copy: %s, want %s", what, short(got), short(text))
	}
	for id := -1; id <= next+1; id++ {
		u, ok := s.Get(id)
		at := slices.IndexFunc(want, func(w api.Upload) bool { return w.ID == id })
		if ok != (at >= 0) || ok && showOne(u) != showOne(want[at]) || !ok && showOne(u) != showOne(api.Upload{}) {
			t.Errorf("%s: Get(%d): %s, %v", what, id, short(showOne(u)), ok)
		}
	}
}

// logIs: the log has just these bytes, so many of them made sure of.
func logIs(t *testing.T, what string, s *Store, sure int, want ...string) {
	t.Helper()
	got, n := s.Log()
	all := strings.Join(want, "")
	if string(got) != all || n != sure {
		t.Errorf("%s: log %q, %d sure, want %q, %d sure", what, short(string(got)), n, short(all), sure)
	}
	left := 100000 - len(all)
	for _, n := range append([]int{0, 1, left - 1, left, left + 1, 100000, 100001}, far...) {
		if got := s.Room(n); got != (n >= 0 && n <= left) {
			t.Errorf("%s: Room(%d) with room for %d: %v", what, n, left, got)
		}
	}
}

// does: the step is done.
func does(t *testing.T, s *Store, l ...act) {
	t.Helper()
	for _, a := range l {
		next := 0
		if a.kind == "create" {
			next = s.Next()
		}
		if got := ask(s, a); got != (answer{next, 0}) {
			t.Fatalf("%v: %v, want %v", a, got, answer{next, 0})
		}
	}
}

// refuses: the step has that code, and all is as it was.
func refuses(t *testing.T, s *Store, a act, code int) {
	t.Helper()
	was := state(s)
	if got := ask(s, a); got != (answer{0, code}) {
		t.Errorf("%v: %v, want %v", a, got, answer{0, code})
	}
	if now := state(s); now != was {
		t.Errorf("%v with a code: %q, was %q", a, short(now), short(was))
	}
}

// fill writes to the log until so many bytes have room, by pieces of an upload
// that may have any. Its number is below 127.
func fill(t *testing.T, s *Store, id, left int) {
	t.Helper()
	u, _ := s.Get(id)
	log, _ := s.Log()
	have := len(u.Bytes)
	for rest := 100000 - left - len(log); rest != 0; {
		n := 4
		if rest < 8 {
			n = rest
		}
		if code := s.Append(id, have, some(n-4)); code != 0 {
			t.Fatalf("Append of %d bytes: %d", n-4, code)
		}
		have += n - 4
		rest -= n
	}
	if !s.Room(left) || s.Room(left+1) {
		t.Fatalf("not just %d bytes have room", left)
	}
}

func TestNew(t *testing.T) {
	s := New()
	holds(t, "New", s, 1)
	logIs(t, "New", s, 0)
	s.Sync()
	holds(t, "Sync of nothing", s, 1)
	logIs(t, "Sync of nothing", s, 0)
	for _, keep := range append([]int{1, 100000}, far...) {
		s.Crash(keep)
		holds(t, "Crash of nothing", s, 1)
		logIs(t, "Crash of nothing", s, 0)
	}
	for _, id := range append([]int{1, 2}, far...) {
		refusesAll(t, s, id)
	}
	does(t, s, act{kind: "create", n: 1})
	// Another one knows nothing of it.
	holds(t, "New again", New(), 1)
	logIs(t, "New again", New(), 0)
}

// refusesAll: there is no upload of that number, whatever is asked of it.
func refusesAll(t *testing.T, s *Store, id int) {
	t.Helper()
	for _, n := range append([]int{1}, far...) {
		refuses(t, s, act{"append", id, n, ""}, api.ErrNone)
		refuses(t, s, act{"append", id, n, "a"}, api.ErrNone)
		refuses(t, s, act{kind: "declare", id: id, n: n}, api.ErrNone)
	}
	for _, kind := range []string{"drop", "begin", "end"} {
		refuses(t, s, act{kind: kind, id: id}, api.ErrNone)
	}
}

// Each step, with the bytes that it adds to the log, written out.
func TestStepsAndTheirEntries(t *testing.T) {
	s := New()
	one := api.Upload{ID: 1, Size: 4}
	two := api.Upload{ID: 2, Size: -1, Meta: "a b"}
	log := []string{}
	step := func(a act, entry string) {
		t.Helper()
		does(t, s, a)
		log = append(log, entry)
		logIs(t, a.String(), s, 0, log...)
	}
	step(act{kind: "create", n: 4}, "\x04\x02\x02\x05")
	holds(t, "Create", s, 2, one)
	step(act{kind: "create", n: -1, text: "a b"}, "\x07\x02\x03\x00a b")
	holds(t, "Create", s, 3, one, two)
	step(act{kind: "append", id: 1, text: "ab"}, "\x06\x03\x02\x01ab")
	one.Bytes = []byte("ab")
	holds(t, "Append", s, 3, one, two)
	step(act{kind: "append", id: 1, n: 2, text: "\x00\xff"}, "\x06\x03\x02\x01\x00\xff")
	one.Bytes = []byte("ab\x00\xff")
	holds(t, "Append", s, 3, one, two)
	step(act{kind: "append", id: 2}, "\x04\x03\x03\x01")
	holds(t, "Append of nothing", s, 3, one, two)
	step(act{kind: "declare", id: 2, n: 0}, "\x04\x04\x03\x01")
	two.Size = 0
	holds(t, "Declare", s, 3, one, two)
	step(act{kind: "begin", id: 2}, "\x04\x06\x03\x01")
	two.Sent = api.Begun
	holds(t, "Begin", s, 3, one, two)
	step(act{kind: "begin", id: 1}, "\x04\x06\x02\x01")
	one.Sent = api.Begun
	holds(t, "Begin", s, 3, one, two)
	step(act{kind: "end", id: 1}, "\x04\x07\x02\x01")
	one.Sent = api.Sent
	holds(t, "End", s, 3, one, two)
	step(act{kind: "drop", id: 2}, "\x04\x05\x03\x01")
	holds(t, "Drop", s, 3, one)
	step(act{kind: "create", n: 0}, "\x04\x02\x04\x01")
	holds(t, "Create behind Drop", s, 4, one, api.Upload{ID: 3})
}

// Entries with numbers that have more than one byte.
func TestLongEntries(t *testing.T) {
	s := New()
	meta := strings.Repeat("m", 100)
	does(t, s, act{kind: "create", n: 2000, text: meta}, act{kind: "create", n: 126}, act{kind: "create", n: 127}, act{kind: "create", n: -1})
	log := "\x69\x02\x02\xd1\x0f" + meta + "\x04\x02\x03\x7f" + "\x05\x02\x04\x80\x01" + "\x04\x02\x05\x00"
	logIs(t, "Create", s, 0, log)
	all, most := strings.Repeat("x", 2000), strings.Repeat("y", 124)
	does(t, s, act{"append", 1, 0, all}, act{"append", 2, 0, most[:123]}, act{"append", 3, 0, most})
	log += "\xd4\x0f\x03\x02\x01" + all + "\x7f\x03\x03\x01" + most[:123] + "\x80\x01\x03\x04\x01" + most
	logIs(t, "Append", s, 0, log)
	does(t, s, act{kind: "declare", id: 4, n: 300})
	log += "\x05\x04\x05\xad\x02"
	logIs(t, "Declare", s, 0, log)
	was, sure := uploads(s.Spool), len(log)
	s.Crash(sure)
	logIs(t, "Crash", s, sure, log)
	if got := uploads(s.Spool); got != was {
		t.Errorf("Crash: %s, want %s", short(got), short(was))
	}
	for s.Next() < 127 {
		id := s.Next()
		does(t, s, act{kind: "create", n: 1}, act{kind: "drop", id: id})
	}
	got, _ := s.Log()
	log = string(got)
	does(t, s, act{kind: "create", n: 1}, act{"append", 127, 0, "z"}, act{kind: "begin", id: 127}, act{kind: "end", id: 127}, act{kind: "drop", id: 127})
	log += "\x05\x02\x80\x01\x02" + "\x06\x03\x80\x01\x01z" + "\x05\x06\x80\x01\x01" + "\x05\x07\x80\x01\x01" + "\x05\x05\x80\x01\x01"
	logIs(t, "a number of two bytes", s, sure, log)
	s.Crash(99999)
	logIs(t, "Crash", s, len(log), log)
	if s.Next() != 128 {
		t.Errorf("Next behind a Crash: %d, want 128", s.Next())
	}
}

// refused: a step that the Spool refuses behind some others.
type refused struct {
	ahead []act
	step  act
	code  int
}

// whole: the upload 2 has all its bytes, as far as it is sent on.
func whole(more ...string) []act {
	l := []act{{kind: "create", n: 2, text: "m"}, {"append", 2, 0, "ab"}}
	for _, kind := range more {
		l = append(l, act{kind: kind, id: 2})
	}
	return l
}

func many(n int, a act) []act { return slices.Repeat([]act{a}, n) }

// refusals: each step with each of the Spool's codes. The upload 1 is there
// ahead of all these, and nobody has told its size.
func refusals() []refused {
	open := []act{{kind: "create", n: -1}, {"append", 2, 0, "ab"}}
	nearQuota := append(many(3, act{kind: "create", n: -1}), act{"append", 2, 0, string(some(2000))}, act{"append", 3, 0, string(some(2000))}, act{"append", 4, 0, string(some(1990))})
	long := string(some(1 << 20))
	l := []refused{
		{nil, act{kind: "create", n: -2}, api.ErrRange},
		{nil, act{kind: "create", n: math.MinInt, text: long}, api.ErrRange},
		{nil, act{kind: "create", n: 2001}, api.ErrLong},
		{nil, act{kind: "create", n: math.MaxInt, text: "\n"}, api.ErrLong},
		{nil, act{kind: "create", text: string(some(101))}, api.ErrLong},
		{nil, act{kind: "create", text: long}, api.ErrLong},
		{nil, act{kind: "create", text: "a\nb"}, api.ErrChar},
		{nil, act{kind: "create", text: " a"}, api.ErrChar},
		{many(11, act{kind: "create"}), act{kind: "create", text: "a\t"}, api.ErrChar},
		{many(11, act{kind: "create"}), act{kind: "create"}, api.ErrMany},
		{nil, act{"append", 2, 0, "a"}, api.ErrNone},
		{nil, act{"append", math.MaxInt, 0, long}, api.ErrNone},
		{whole("drop"), act{"append", 2, 2, ""}, api.ErrNone},
		{whole("begin"), act{"append", 2, 2, ""}, api.ErrSent},
		{whole("begin", "end"), act{"append", 2, 1, long}, api.ErrSent},
		{open, act{"append", 2, 1, "b"}, api.ErrOffset},
		{open, act{"append", 2, 3, ""}, api.ErrOffset},
		{open, act{"append", 2, -1, long}, api.ErrOffset},
		{whole(), act{"append", 2, 2, "c"}, api.ErrLong},
		{open, act{"append", 2, 2, string(some(1999))}, api.ErrLong},
		{open, act{"append", 2, 2, long}, api.ErrLong},
		{nearQuota, act{"append", 1, 0, string(some(20))}, api.ErrOffset},
		{nearQuota, act{"append", 4, 1990, string(some(11))}, api.ErrLong},
		{nil, act{kind: "declare", id: 2, n: -1}, api.ErrNone},
		{whole(), act{kind: "declare", id: 2, n: 2}, api.ErrDone},
		{whole("begin"), act{kind: "declare", id: 2, n: -1}, api.ErrDone},
		{open, act{kind: "declare", id: 2, n: -1}, api.ErrRange},
		{open, act{kind: "declare", id: 2, n: math.MinInt}, api.ErrRange},
		{open, act{kind: "declare", id: 2, n: 1}, api.ErrLong},
		{open, act{kind: "declare", id: 2, n: 2001}, api.ErrLong},
		{open, act{kind: "declare", id: 2, n: math.MaxInt}, api.ErrLong},
		{nil, act{kind: "drop", id: 2}, api.ErrNone},
		{whole("drop"), act{kind: "drop", id: 2}, api.ErrNone},
		{nil, act{kind: "begin", id: 2}, api.ErrNone},
		{whole("begin"), act{kind: "begin", id: 2}, api.ErrSent},
		{whole("begin", "end"), act{kind: "begin", id: 2}, api.ErrSent},
		{open, act{kind: "begin", id: 2}, api.ErrShort},
		{[]act{{kind: "create", n: 2}}, act{kind: "begin", id: 2}, api.ErrShort},
		{nil, act{kind: "end", id: 2}, api.ErrNone},
		{whole(), act{kind: "end", id: 2}, api.ErrSent},
		{whole("begin", "end"), act{kind: "end", id: 2}, api.ErrSent},
	}
	return l
}

func TestCodesOfTheSpool(t *testing.T) {
	for _, x := range refusals() {
		for _, left := range []int{100000, 3, 0} {
			s := New()
			does(t, s, act{kind: "create", n: -1}, act{"append", 1, 0, "abc"})
			does(t, s, x.ahead...)
			if left < 100000 {
				// The Spool's code is told ahead of the log's.
				fill(t, s, 1, left)
			}
			was := uploads(s.Spool)
			refuses(t, s, x.step, x.code)
			s.Sync()
			refuses(t, s, x.step, x.code)
			s.Crash(0)
			if now := uploads(s.Spool); now != was {
				t.Errorf("%v and a Crash: %s, was %s", x.step, short(now), short(was))
			}
			refuses(t, s, x.step, x.code)
		}
	}
}

// All uploads have too many bytes, with much room in the log.
func TestQuota(t *testing.T) {
	s := New()
	does(t, s, many(4, act{kind: "create", n: -1})...)
	for id := 1; id <= 3; id++ {
		does(t, s, act{"append", id, 0, string(some(2000))})
	}
	refuses(t, s, act{"append", 4, 0, "a"}, api.ErrFull)
	does(t, s, act{"append", 4, 0, ""}, act{kind: "drop", id: 2}, act{"append", 4, 0, "a"})
	refuses(t, s, act{"append", 4, 1, string(some(2000))}, api.ErrLong)
	does(t, s, act{"append", 4, 1, string(some(1999))})
	does(t, s, act{kind: "create", n: 1})
	refuses(t, s, act{"append", 5, 0, "b"}, api.ErrFull)
	log, _ := s.Log()
	was := uploads(s.Spool)
	s.Crash(len(log))
	if now := uploads(s.Spool); now != was {
		t.Errorf("Crash: %s, was %s", short(now), short(was))
	}
	refuses(t, s, act{"append", 5, 0, "b"}, api.ErrFull)
}

// fitting: a step that can be done behind some others, and how many bytes its
// entry has.
type fitting struct {
	ahead []act
	step  act
	size  int
}

func fittings() []fitting {
	return []fitting{
		{nil, act{kind: "create", n: -1}, 4},
		{nil, act{kind: "create", n: 127, text: "abc"}, 8},
		{nil, act{kind: "create", n: 2000, text: string(some(100))}, 105},
		{whole(), act{"append", 2, 2, ""}, 4},
		{[]act{{kind: "create", n: -1}}, act{"append", 2, 0, "abc"}, 7},
		{[]act{{kind: "create", n: 2000}}, act{"append", 2, 0, string(some(123))}, 127},
		{[]act{{kind: "create", n: 2000}}, act{"append", 2, 0, string(some(124))}, 129},
		{[]act{{kind: "create", n: 2000}}, act{"append", 2, 0, string(some(2000))}, 2005},
		{[]act{{kind: "create", n: -1}}, act{kind: "declare", id: 2, n: 126}, 4},
		{[]act{{kind: "create", n: -1}}, act{kind: "declare", id: 2, n: 127}, 5},
		{whole(), act{kind: "drop", id: 2}, 4},
		{whole(), act{kind: "begin", id: 2}, 4},
		{whole("begin"), act{kind: "end", id: 2}, 4},
	}
}

func TestRoomOfEntries(t *testing.T) {
	for _, x := range fittings() {
		for _, few := range []int{-1, 0, 1, x.size - 1, x.size} {
			s := New()
			does(t, s, act{kind: "create", n: -1})
			does(t, s, x.ahead...)
			fill(t, s, 1, x.size-few)
			if few > 0 {
				refuses(t, s, x.step, api.ErrFull)
				s.Sync()
				refuses(t, s, x.step, api.ErrFull)
				s.Crash(100000)
				refuses(t, s, x.step, api.ErrFull)
				continue
			}
			log, _ := s.Log()
			next, want := 0, s.Copy()
			if x.step.kind == "create" {
				next = s.Next()
			}
			ask(want, x.step)
			does(t, s, x.step)
			if got := uploads(s.Spool); got != uploads(want) {
				t.Errorf("%v with just room: %s", x.step, short(got))
			}
			logIs(t, x.step.String(), s, 0, string(log), entry(x.step, next))
			s.Crash(100000)
			if got := uploads(s.Spool); got != uploads(want) {
				t.Errorf("%v with just room and a Crash: %s", x.step, short(got))
			}
		}
	}
}

// A crash makes room again.
func TestRoomBehindACrash(t *testing.T) {
	s := New()
	does(t, s, act{kind: "create", n: -1, text: "m"})
	s.Sync()
	fill(t, s, 1, 0)
	refuses(t, s, act{kind: "drop", id: 1}, api.ErrFull)
	s.Crash(99990)
	// The log had 100000 bytes, 5 of them made sure of, and ends of entries
	// each four bytes behind these.
	if log, sure := s.Log(); len(log) != 5+99988 || sure != len(log) {
		t.Errorf("behind a Crash: %d bytes, %d sure", len(log), sure)
	}
	does(t, s, act{kind: "drop", id: 1})
	refuses(t, s, act{kind: "create"}, api.ErrFull)
	s.Crash(0)
	if s.Room(8) || !s.Room(7) {
		t.Errorf("Room behind a Crash that loses a Drop")
	}
	holds(t, "a Drop is lost", s, 2, api.Upload{ID: 1, Size: -1, Meta: "m"})
}

func TestSync(t *testing.T) {
	s := New()
	create := "\x04\x02\x02\x03"
	does(t, s, act{kind: "create", n: 2})
	logIs(t, "ahead of Sync", s, 0, create)
	for range 3 {
		s.Sync()
		logIs(t, "Sync", s, 4, create)
		holds(t, "Sync", s, 2, api.Upload{ID: 1, Size: 2})
	}
	does(t, s, act{"append", 1, 0, "a"})
	logIs(t, "behind Sync", s, 4, create, "\x05\x03\x02\x01a")
	refuses(t, s, act{"append", 1, 0, "a"}, api.ErrOffset)
	s.Sync()
	logIs(t, "Sync again", s, 9, create, "\x05\x03\x02\x01a")
	holds(t, "Sync again", s, 2, api.Upload{ID: 1, Size: 2, Bytes: []byte("a")})
}

// life: steps that can all be done, each of the six kinds among them.
func life() []act {
	return []act{
		{kind: "create", n: 3, text: "filename a"},
		{"append", 1, 0, "ab"},
		{kind: "create", n: -1},
		{"append", 2, 0, "\x04\x02\x02\x05"},
		{"append", 1, 2, "c"},
		{kind: "begin", id: 1},
		{kind: "declare", id: 2, n: 200},
		{kind: "create", n: 0},
		{kind: "drop", id: 3},
		{kind: "end", id: 1},
		{"append", 2, 4, ""},
		{kind: "create", n: 1},
		{kind: "drop", id: 1},
	}
}

// Crashes behind each step of a life, with a Sync behind each step ahead of it
// or none, that keep each number of bytes.
func TestCrash(t *testing.T) {
	steps := life()
	for end := range len(steps) + 1 {
		for at := -1; at <= end; at++ {
			for keep := -2; ; keep++ {
				b := newBoth()
				for i, a := range steps[:end] {
					if i == at {
						b.all(t, act{kind: "sync"})
					}
					b.all(t, a)
				}
				if at == end {
					b.all(t, act{kind: "sync"})
				}
				more := len(b.p.log) - b.p.sure
				crashes(t, b, keep, steps[:end])
				if keep > more+1 {
					break
				}
			}
		}
	}
}

// crashes, again and again, and goes on.
func crashes(t *testing.T, b both, keep int, steps []act) {
	t.Helper()
	b.all(t, act{kind: "crash", n: keep})
	was := state(b.s)
	for _, again := range []int{keep, 0, -1, 1, 4, math.MinInt, math.MaxInt} {
		b.all(t, act{kind: "crash", n: again})
		if now := state(b.s); now != was {
			t.Fatalf("a Crash again: %q, was %q", now, was)
		}
	}
	b.all(t, act{kind: "sync"})
	for _, a := range steps {
		b.do(t, a)
	}
	b.all(t, act{kind: "crash", n: keep})
}

// Behind a crash there is nothing that was not there at some time, at or
// behind the last Sync.
func TestWhatWasMadeSureOfStays(t *testing.T) {
	steps := life()
	for at := range len(steps) + 1 {
		for _, keep := range append([]int{1, 3, 4, 5, 8, 12, 20, 40}, far...) {
			s := New()
			var times []string
			for i, a := range steps {
				if i == at {
					s.Sync()
					times = nil
				}
				times = append(times, uploads(s.Spool))
				does(t, s, a)
			}
			times = append(times, uploads(s.Spool))
			if at == len(steps) {
				s.Sync()
				times = times[len(times)-1:]
			}
			s.Crash(keep)
			if now := uploads(s.Spool); !slices.Contains(times, now) {
				t.Errorf("Sync ahead of step %d, Crash(%d): %s was at no time", at, keep, now)
			}
		}
	}
}

// The examples of a crash, each written out.
func TestLostWithinAnEntry(t *testing.T) {
	const create, ab, cd = "\x04\x02\x02\x05", "\x06\x03\x02\x01ab", "\x06\x03\x02\x01cd"
	for keep, want := range map[int]string{
		math.MinInt: "", -1: "", 0: "", 1: "", 5: "", 6: "ab", 7: "ab", 11: "ab", 12: "abcd", 13: "abcd", math.MaxInt: "abcd",
	} {
		s := New()
		does(t, s, act{kind: "create", n: 4})
		s.Sync()
		does(t, s, act{"append", 1, 0, "ab"}, act{"append", 1, 2, "cd"})
		s.Crash(keep)
		what := fmt.Sprintf("Crash(%d)", keep)
		size := 4 + len(want)*3
		logIs(t, what, s, size, (create + ab + cd)[:size])
		holds(t, what, s, 2, api.Upload{ID: 1, Size: 4, Bytes: []byte(want)})
		if len(want) < 4 {
			refuses(t, s, act{kind: "begin", id: 1}, api.ErrShort)
			refuses(t, s, act{"append", 1, len(want) + 2, ""}, api.ErrOffset)
			does(t, s, act{"append", 1, len(want), "abcd"[len(want):]})
		}
		does(t, s, act{kind: "begin", id: 1})
		refuses(t, s, act{"append", 1, 4, ""}, api.ErrSent)
	}
}

// A crash behind no Sync may lose all.
func TestCrashBehindNoSync(t *testing.T) {
	for keep := -1; keep <= 15; keep++ {
		s := New()
		does(t, s, act{kind: "create", n: 1, text: "m"}, act{"append", 1, 0, "a"}, act{kind: "begin", id: 1})
		s.Crash(keep)
		what := fmt.Sprintf("Crash(%d)", keep)
		u := api.Upload{ID: 1, Size: 1, Meta: "m"}
		switch {
		case keep < 5:
			logIs(t, what, s, 0)
			holds(t, what, s, 1)
		case keep < 10:
			logIs(t, what, s, 5, "\x05\x02\x02\x02m")
			holds(t, what, s, 2, u)
		case keep < 14:
			u.Bytes = []byte("a")
			logIs(t, what, s, 10, "\x05\x02\x02\x02m", "\x05\x03\x02\x01a")
			holds(t, what, s, 2, u)
		default:
			u.Bytes, u.Sent = []byte("a"), api.Begun
			logIs(t, what, s, 14, "\x05\x02\x02\x02m", "\x05\x03\x02\x01a", "\x04\x06\x02\x01")
			holds(t, what, s, 2, u)
		}
	}
}

func TestNumbersBehindACrash(t *testing.T) {
	s := New()
	does(t, s, act{kind: "create", n: 0, text: "one"}, act{kind: "create", n: 0, text: "two"})
	s.Sync()
	does(t, s, act{kind: "create", n: 0, text: "three"}, act{kind: "drop", id: 2})
	s.Crash(0)
	one, two := api.Upload{ID: 1, Meta: "one"}, api.Upload{ID: 2, Meta: "two"}
	holds(t, "a Create and a Drop are lost", s, 3, one, two)
	// The number 3 is given again, as nothing tells that it was.
	does(t, s, act{kind: "create", n: 5, text: "other"})
	other := api.Upload{ID: 3, Size: 5, Meta: "other"}
	holds(t, "Create behind a Crash", s, 4, one, two, other)
	does(t, s, act{kind: "drop", id: 3}, act{kind: "drop", id: 1})
	s.Sync()
	s.Crash(0)
	// It is not given again, as the log tells of it.
	holds(t, "what was dropped stays dropped", s, 4, two)
	does(t, s, act{kind: "create", n: 1, text: "last"})
	holds(t, "Create behind a Drop", s, 5, two, api.Upload{ID: 4, Size: 1, Meta: "last"})
	refusesAll(t, s, 1)
	refusesAll(t, s, 3)
}

// All were dropped: the numbers go on nevertheless.
func TestNothingLeftButNumbers(t *testing.T) {
	s := New()
	for id := 1; id <= 30; id++ {
		does(t, s, act{kind: "create", n: -1}, act{"append", id, 0, string(some(1500))}, act{kind: "drop", id: id})
	}
	log, _ := s.Log()
	s.Crash(len(log))
	holds(t, "all were dropped", s, 31)
	does(t, s, many(12, act{kind: "create"})...)
	refuses(t, s, act{kind: "create"}, api.ErrMany)
	s.Crash(4 * 11)
	if l := s.List(); len(l) != 11 || s.Next() != 42 {
		t.Errorf("one of twelve is lost: %d, Next %d", len(l), s.Next())
	}
	does(t, s, act{kind: "create"})
	refuses(t, s, act{kind: "create"}, api.ErrMany)
}

func TestBeginAndEndAheadOfACrash(t *testing.T) {
	for _, x := range []struct {
		synced, keep, sent int
	}{{0, 0, 0}, {0, 3, 0}, {0, 4, 1}, {0, 7, 1}, {0, 8, 2}, {1, 0, 1}, {1, 3, 1}, {1, 4, 2}, {2, 0, 2}} {
		s := New()
		does(t, s, act{kind: "create", n: 1}, act{"append", 1, 0, "a"})
		for i, kind := range []string{"begin", "end", ""} {
			if i == x.synced {
				s.Sync()
			}
			if kind != "" {
				does(t, s, act{kind: kind, id: 1})
			}
		}
		s.Crash(x.keep)
		holds(t, fmt.Sprint(x), s, 2, api.Upload{ID: 1, Size: 1, Bytes: []byte("a"), Sent: x.sent})
		logIs(t, fmt.Sprint(x), s, 9+4*x.sent, ("\x04\x02\x02\x02" + "\x05\x03\x02\x01a" + "\x04\x06\x02\x01" + "\x04\x07\x02\x01")[:9+4*x.sent])
		switch x.sent {
		case api.NotSent:
			refuses(t, s, act{kind: "end", id: 1}, api.ErrSent)
			does(t, s, act{kind: "begin", id: 1})
		case api.Begun:
			refuses(t, s, act{kind: "begin", id: 1}, api.ErrSent)
			does(t, s, act{kind: "end", id: 1})
		default:
			refuses(t, s, act{kind: "begin", id: 1}, api.ErrSent)
			refuses(t, s, act{kind: "end", id: 1}, api.ErrSent)
			does(t, s, act{kind: "drop", id: 1})
		}
	}
}

// Bytes that read as entries are bytes of an upload nevertheless.
func TestEntriesWithinBytes(t *testing.T) {
	inner := "\x04\x02\x02\x05\x04\x05\x02\x01"
	s := New()
	does(t, s, act{kind: "create", n: -1}, act{"append", 1, 0, inner})
	for range 3 {
		s.Crash(100)
		holds(t, "bytes that read as entries", s, 2, api.Upload{ID: 1, Size: -1, Bytes: []byte(inner)})
	}
	does(t, s, act{"append", 1, 8, inner})
	s.Crash(11)
	holds(t, "an entry that lacks a byte", s, 2, api.Upload{ID: 1, Size: -1, Bytes: []byte(inner)})
	logIs(t, "an entry that lacks a byte", s, 16, "\x04\x02\x02\x00", "\x0c\x03\x02\x01", inner)
}

// spoil changes all of a list, and what lies behind it.
func spoil(b []byte) {
	b = b[:cap(b)]
	for i := range b {
		b[i] = '!'
	}
}

func TestMemory(t *testing.T) {
	s := New()
	memory := []byte("abcdefgh")
	does(t, s, act{kind: "create", n: -1, text: "m"})
	if code := s.Append(1, 0, memory[1:4]); code != 0 {
		t.Fatal(code)
	}
	if code := s.Append(1, 3, memory[4:5]); code != 0 {
		t.Fatal(code)
	}
	if string(memory) != "abcdefgh" {
		t.Errorf("Append changed what was handed in, or what lies behind it: %q", memory)
	}
	spoil(memory)
	unchanged := func(what string) {
		t.Helper()
		holds(t, what, s, 2, api.Upload{ID: 1, Size: -1, Meta: "m", Bytes: []byte("bcde")})
		_, sure := s.Log()
		logIs(t, what, s, sure, "\x05\x02\x02\x00m", "\x07\x03\x02\x01bcd", "\x05\x03\x02\x01e")
	}
	unchanged("what was handed in is changed")
	spoilAnswers(t, s)
	unchanged("what was answered is changed")
	s.Sync()
	spoilAnswers(t, s)
	unchanged("what was answered behind Sync is changed")
	s.Crash(0)
	spoilAnswers(t, s)
	unchanged("what was answered behind Crash is changed")
	// What was refused is not changed either.
	b := []byte("xyz")
	s.Append(1, 0, b[:2])
	s.Append(2, 0, b[:2])
	if string(b) != "xyz" {
		t.Errorf("Append with a code changed what was handed in: %q", b)
	}
}

// spoilAnswers changes all that a store answers.
func spoilAnswers(t *testing.T, s *Store) {
	t.Helper()
	log, _ := s.Log()
	other, _ := s.Log()
	was := bytes.Clone(other)
	spoil(log)
	if !bytes.Equal(other, was) {
		t.Errorf("two answers share memory")
	}
	u, _ := s.Get(1)
	spoil(u.Bytes)
	l := s.List()
	spoil(l[0].Bytes)
	l[0] = api.Upload{}
	k := s.Copy()
	k.Append(1, k.Used(), []byte("more"))
	k.Create(3, "of the copy")
	k.Drop(1)
}

// What was answered is not changed by what is done later.
func TestAnswersStay(t *testing.T) {
	s := New()
	does(t, s, act{kind: "create", n: -1, text: "m"}, act{"append", 1, 0, "ab"})
	log, _ := s.Log()
	u, _ := s.Get(1)
	l, k := s.List(), s.Copy()
	tell := func() string {
		return fmt.Sprintf("%q %s %s %s", log, showOne(u), showOne(l[0]), uploads(k))
	}
	was := tell()
	later := []func(){
		func() { does(t, s, act{"append", 1, 2, "cd"}, act{kind: "declare", id: 1, n: 4}) },
		func() { does(t, s, act{kind: "begin", id: 1}, act{kind: "end", id: 1}) },
		func() { s.Crash(0) },
		func() { does(t, s, act{kind: "create", n: 7, text: "q"}, act{"append", 1, 0, "xyz"}) },
		func() { s.Sync() },
		func() { does(t, s, act{kind: "drop", id: 1}) },
	}
	for i, do := range later {
		do()
		if now := tell(); now != was {
			t.Errorf("behind %d: %s, was %s", i, now, was)
		}
	}
}

// Two stores know nothing of each other.
func TestTwoStores(t *testing.T) {
	a, b := newBoth(), newBoth()
	for i, x := range life() {
		a.all(t, x)
		b.alike(t, "the other one")
		if i%3 == 0 {
			a.all(t, act{kind: "sync"})
		}
	}
	b.all(t, act{kind: "create", n: 5, text: "b"}, act{"append", 1, 0, "b"})
	a.alike(t, "the first one")
	b.all(t, act{kind: "crash", n: 7})
	a.alike(t, "the first one")
	a.all(t, act{kind: "crash"})
	b.alike(t, "the other one")
}

// What is handed in may be as long as it likes.
func TestLongInputs(t *testing.T) {
	s := New()
	does(t, s, act{kind: "create", n: -1}, act{kind: "create", n: 3})
	for _, n := range []int{2001, 6001, 100001, 1<<20 - 1, 1 << 20, 1 << 24} {
		long := string(some(n))
		refuses(t, s, act{"append", 1, 0, long}, api.ErrLong)
		refuses(t, s, act{"append", 2, 0, long}, api.ErrLong)
		refuses(t, s, act{"append", 3, 0, long}, api.ErrNone)
		refuses(t, s, act{kind: "create", text: long}, api.ErrLong)
	}
}
