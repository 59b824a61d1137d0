package spool

import (
	"bytes"
	"fmt"
	"math"
	"slices"
	"strings"
	"testing"
	"unsafe"

	"lighterage/api"
)

// state: all that a spool tells of itself, as a text.
func state(s *Spool) string {
	return fmt.Sprintf("%s used %d next %d", show(s.List()), s.Used(), s.Next())
}

func show(l []api.Upload) string {
	out := ""
	for _, u := range l {
		out += showOne(u) + "|"
	}
	return out
}

func showOne(u api.Upload) string {
	return fmt.Sprintf("%d of %d %q %q %d", u.ID, u.Size, u.Meta, u.Bytes, u.Sent)
}

func short(s string) string {
	if len(s) > 400 {
		return s[:200] + " .. " + s[len(s)-200:]
	}
	return s
}

func some(n int) []byte { return bytes.Repeat([]byte("x"), n) }

// holds: the spool has just these uploads, and gives that number next.
func holds(t *testing.T, s *Spool, next int, want ...api.Upload) {
	t.Helper()
	used := 0
	for _, u := range want {
		used += len(u.Bytes)
		if got, ok := s.Get(u.ID); !ok || showOne(got) != showOne(u) {
			t.Errorf("Get(%d): %s, %v, want %s", u.ID, short(showOne(got)), ok, short(showOne(u)))
		}
	}
	if got := show(s.List()); got != show(want) {
		t.Errorf("List: %s, want %s", short(got), short(show(want)))
	}
	if got := s.Used(); got != used {
		t.Errorf("Used: %d, want %d", got, used)
	}
	if got := s.Next(); got != next {
		t.Errorf("Next: %d, want %d", got, next)
	}
	isThere := func(id int) bool {
		return slices.ContainsFunc(want, func(u api.Upload) bool { return u.ID == id })
	}
	for id := -1; id <= next+1; id++ {
		if u, ok := s.Get(id); ok != isThere(id) || !ok && showOne(u) != showOne(api.Upload{}) {
			t.Errorf("Get(%d): %s, %v, want %v", id, short(showOne(u)), ok, isThere(id))
		}
	}
}

// create: the number of an upload that may be created.
func create(t *testing.T, s *Spool, size int, meta string) int {
	t.Helper()
	next := s.Next()
	id, code := s.Create(size, meta)
	if id != next || code != 0 {
		t.Fatalf("Create(%d, %q): %d, %d, want %d, 0", size, meta, id, code, next)
	}
	return id
}

func refusesCreate(t *testing.T, s *Spool, size int, meta string, want int) {
	t.Helper()
	was := state(s)
	if id, code := s.Create(size, meta); id != 0 || code != want {
		t.Errorf("Create(%d, %q): %d, %d, want 0, %d", size, meta, id, code, want)
	}
	if state(s) != was {
		t.Errorf("Create(%d, %q) with a code: %s, was %s", size, meta, short(state(s)), short(was))
	}
}

// done: a step that answered that code had to answer 0.
func done(t *testing.T, what string, code int) {
	t.Helper()
	if code != 0 {
		t.Fatalf("%s: %d, want 0", what, code)
	}
}

// refuses: the step has that code, and all is as it was.
func refuses(t *testing.T, s *Spool, what string, want int, step func() int) {
	t.Helper()
	was := state(s)
	if code := step(); code != want {
		t.Errorf("%s: %d, want %d", what, code, want)
	}
	if state(s) != was {
		t.Errorf("%s with a code: %s, was %s", what, short(state(s)), short(was))
	}
}

func refusesAppend(t *testing.T, s *Spool, id, offset int, b []byte, want int) {
	t.Helper()
	was := slices.Clone(b)
	refuses(t, s, fmt.Sprintf("Append(%d, %d, of %d bytes)", id, offset, len(b)), want, func() int { return s.Append(id, offset, b) })
	if !bytes.Equal(b, was) {
		t.Errorf("Append changed what was handed in")
	}
}

func refusesDeclare(t *testing.T, s *Spool, id, size, want int) {
	t.Helper()
	refuses(t, s, fmt.Sprintf("Declare(%d, %d)", id, size), want, func() int { return s.Declare(id, size) })
}

func refusesBegin(t *testing.T, s *Spool, id, want int) {
	t.Helper()
	refuses(t, s, fmt.Sprintf("Begin(%d)", id), want, func() int { return s.Begin(id) })
}

func refusesEnd(t *testing.T, s *Spool, id, want int) {
	t.Helper()
	refuses(t, s, fmt.Sprintf("End(%d)", id), want, func() int { return s.End(id) })
}

func refusesDrop(t *testing.T, s *Spool, id int) {
	t.Helper()
	refuses(t, s, fmt.Sprintf("Drop(%d)", id), api.ErrNone, func() int { return s.Drop(id) })
}

// refusesAll: there is no upload of that number, whatever is asked of it.
func refusesAll(t *testing.T, s *Spool, id int) {
	t.Helper()
	for _, offset := range []int{0, 1, -1, math.MaxInt, math.MinInt} {
		for _, n := range []int{0, 1, api.MaxSize + 1, api.MaxQuota + 1} {
			refusesAppend(t, s, id, offset, some(n), api.ErrNone)
		}
	}
	for _, size := range []int{-1, 0, 1, api.MaxSize + 1} {
		refusesDeclare(t, s, id, size, api.ErrNone)
	}
	refusesBegin(t, s, id, api.ErrNone)
	refusesEnd(t, s, id, api.ErrNone)
	refusesDrop(t, s, id)
	if u, ok := s.Get(id); ok || showOne(u) != showOne(api.Upload{}) {
		t.Errorf("Get(%d): %s, %v, want none", id, showOne(u), ok)
	}
}

// sentTo: a spool with one upload of three bytes, as far as that.
func sentTo(t *testing.T, sent int) *Spool {
	t.Helper()
	s := New()
	id := create(t, s, 3, "m")
	done(t, "Append", s.Append(id, 0, []byte("abc")))
	if sent >= api.Begun {
		done(t, "Begin", s.Begin(id))
	}
	if sent >= api.Sent {
		done(t, "End", s.End(id))
	}
	return s
}

func TestNew(t *testing.T) {
	s := New()
	holds(t, s, 1)
	for _, id := range []int{0, 1, -1, 2, math.MaxInt, math.MinInt} {
		refusesAll(t, s, id)
	}
	holds(t, s, 1)
	create(t, s, 1, "")
	holds(t, New(), 1)
}

func TestOneUpload(t *testing.T) {
	s := New()
	id := create(t, s, -1, "filename a.txt")
	u := api.Upload{ID: 1, Size: -1, Meta: "filename a.txt"}
	holds(t, s, 2, u)
	done(t, "Append", s.Append(id, 0, []byte("ab")))
	u.Bytes = []byte("ab")
	holds(t, s, 2, u)
	done(t, "Declare", s.Declare(id, 5))
	u.Size = 5
	holds(t, s, 2, u)
	done(t, "Append", s.Append(id, 2, []byte("\x00\xff\n")))
	u.Bytes = []byte("ab\x00\xff\n")
	holds(t, s, 2, u)
	done(t, "Begin", s.Begin(id))
	u.Sent = api.Begun
	holds(t, s, 2, u)
	done(t, "End", s.End(id))
	u.Sent = api.Sent
	holds(t, s, 2, u)
	done(t, "Drop", s.Drop(id))
	holds(t, s, 2)
	refusesAll(t, s, id)
}

func TestSizesOfCreate(t *testing.T) {
	for _, size := range []int{-1, 0, 1, api.MaxSize - 1, api.MaxSize} {
		s := New()
		create(t, s, size, "m")
		holds(t, s, 2, api.Upload{ID: 1, Size: size, Meta: "m"})
	}
	for _, size := range []int{-2, -3, -api.MaxSize, math.MinInt} {
		refusesCreate(t, New(), size, "m", api.ErrRange)
	}
	for _, size := range []int{api.MaxSize + 1, api.MaxQuota, math.MaxInt} {
		refusesCreate(t, New(), size, "m", api.ErrLong)
	}
}

// Sizes that were told are no bytes: all of them may be more than MaxQuota.
func TestSizesAreNoBytes(t *testing.T) {
	s := New()
	for n := range api.MaxUploads {
		create(t, s, api.MaxSize, "")
		if s.Used() != 0 || s.Next() != n+2 {
			t.Errorf("behind %d: Used %d, Next %d", n+1, s.Used(), s.Next())
		}
	}
}

func TestMeta(t *testing.T) {
	long := strings.Repeat("m", api.MaxMeta)
	for _, meta := range []string{
		"", "m", "a b", "a\tb", "a \t b", "\x80", "\xff", "\u00e9", "\u00a0", "filename a.txt", "\"\\", long, long[:api.MaxMeta-1], "a" + strings.Repeat(" ", api.MaxMeta-2) + "b",
		strings.Repeat("\u00e9", api.MaxMeta/2),
	} {
		s := New()
		create(t, s, 1, meta)
		holds(t, s, 2, api.Upload{ID: 1, Size: 1, Meta: meta})
	}
	for _, meta := range []string{long + "m", long + long, strings.Repeat("\u00e9", api.MaxMeta/2) + "e", strings.Repeat("\u00e9", api.MaxMeta/2+1)} {
		refusesCreate(t, New(), 1, meta, api.ErrLong)
	}
	for _, meta := range []string{
		" ", "\t", " m", "m ", "\tm", "m\t", " m ", " \t ", long[1:] + " ", "\t" + long[1:], strings.Repeat(" ", api.MaxMeta), "\r", "\n", "m\r\n", "a\nb", "\x00", "a\x00", "\x7f", "\x1fa", long[1:] + "\x00",
	} {
		refusesCreate(t, New(), 1, meta, api.ErrChar)
	}
	for n := range 256 {
		c := string([]byte{byte(n)})
		hidden := n < 32 && n != 9 || n == 127
		for _, meta := range []string{c, c + "b", "a" + c, "a" + c + "b"} {
			atEnd := (n == 9 || n == 32) && len(meta) < 3
			if hidden || atEnd {
				refusesCreate(t, New(), 1, meta, api.ErrChar)
				continue
			}
			s := New()
			create(t, s, 1, meta)
			holds(t, s, 2, api.Upload{ID: 1, Size: 1, Meta: meta})
		}
	}
}

func TestManyUploads(t *testing.T) {
	s := New()
	var want []api.Upload
	for n := range api.MaxUploads {
		create(t, s, n, fmt.Sprint("m", n))
		want = append(want, api.Upload{ID: n + 1, Size: n, Meta: fmt.Sprint("m", n)})
		holds(t, s, n+2, want...)
	}
	refusesCreate(t, s, -1, "", api.ErrMany)
	refusesCreate(t, s, 5, "m", api.ErrMany)
	holds(t, s, api.MaxUploads+1, want...)
	// Room comes by a Drop alone, of whichever.
	for _, at := range []int{0, 5, api.MaxUploads - 1} {
		done(t, "Drop", s.Drop(want[at].ID))
		next := s.Next()
		create(t, s, 7, "n")
		want = append(slices.Delete(want, at, at+1), api.Upload{ID: next, Size: 7, Meta: "n"})
		holds(t, s, next+1, want...)
		refusesCreate(t, s, -1, "", api.ErrMany)
	}
	// One that was sent on is one still.
	id := want[0].ID
	done(t, "Append", s.Append(id, 0, some(want[0].Size)))
	done(t, "Begin", s.Begin(id))
	done(t, "End", s.End(id))
	refusesCreate(t, s, -1, "", api.ErrMany)
}

func TestNumbersRise(t *testing.T) {
	s := New()
	for n := 1; n <= 3; n++ {
		create(t, s, 0, "")
	}
	done(t, "Drop", s.Drop(2))
	holds(t, s, 4, api.Upload{ID: 1}, api.Upload{ID: 3})
	create(t, s, 0, "")
	holds(t, s, 5, api.Upload{ID: 1}, api.Upload{ID: 3}, api.Upload{ID: 4})
	// Also behind a Drop of the last one, and of all.
	done(t, "Drop", s.Drop(4))
	holds(t, s, 5, api.Upload{ID: 1}, api.Upload{ID: 3})
	done(t, "Drop", s.Drop(1))
	done(t, "Drop", s.Drop(3))
	holds(t, s, 5)
	create(t, s, 0, "")
	holds(t, s, 6, api.Upload{ID: 5})
	// A Create that was refused gives none.
	refusesCreate(t, s, -2, "", api.ErrRange)
	refusesCreate(t, s, api.MaxSize+1, "", api.ErrLong)
	refusesCreate(t, s, 0, " ", api.ErrChar)
	create(t, s, 0, "")
	holds(t, s, 7, api.Upload{ID: 5}, api.Upload{ID: 6})
	for n := 7; n < 200; n++ {
		create(t, s, 0, "")
		done(t, "Drop", s.Drop(n))
		holds(t, s, n+1, api.Upload{ID: 5}, api.Upload{ID: 6})
	}
}

func TestNumbersBehindMany(t *testing.T) {
	s := New()
	for range api.MaxUploads {
		create(t, s, 0, "")
	}
	for range 3 {
		refusesCreate(t, s, 0, "", api.ErrMany)
	}
	done(t, "Drop", s.Drop(api.MaxUploads))
	if id := create(t, s, 0, ""); id != api.MaxUploads+1 {
		t.Errorf("Create behind ErrMany: %d", id)
	}
}

func TestAppend(t *testing.T) {
	s := New()
	a, b := create(t, s, 6, "a"), create(t, s, -1, "b")
	for i, piece := range []string{"a", "", "bc", "def", ""} {
		u, _ := s.Get(a)
		done(t, fmt.Sprint("Append ", i), s.Append(a, len(u.Bytes), []byte(piece)))
		u, _ = s.Get(b)
		done(t, fmt.Sprint("Append ", i), s.Append(b, len(u.Bytes), []byte("\x00"+piece)))
	}
	holds(t, s, 3, api.Upload{ID: a, Size: 6, Meta: "a", Bytes: []byte("abcdef")},
		api.Upload{ID: b, Size: -1, Meta: "b", Bytes: []byte("\x00a\x00\x00bc\x00def\x00")})
	for n := range 256 {
		u, _ := s.Get(b)
		done(t, "Append", s.Append(b, len(u.Bytes), []byte{byte(n)}))
		if u, _ = s.Get(b); u.Bytes[len(u.Bytes)-1] != byte(n) {
			t.Errorf("Append of %d: %q", n, u.Bytes)
		}
	}
}

func TestAppendOfNoBytes(t *testing.T) {
	for _, size := range []int{-1, 0, 5} {
		s := New()
		id := create(t, s, size, "")
		done(t, "Append of nil", s.Append(id, 0, nil))
		done(t, "Append of no bytes", s.Append(id, 0, []byte{}))
		holds(t, s, 2, api.Upload{ID: 1, Size: size})
		refusesAppend(t, s, id, 1, nil, api.ErrOffset)
		refusesAppend(t, s, id, -1, nil, api.ErrOffset)
		refusesAppend(t, s, id+1, 0, nil, api.ErrNone)
	}
	// To what is full, too.
	s := New()
	for id := 1; id <= 3; id++ {
		create(t, s, -1, "")
		done(t, "Append", s.Append(id, 0, some(api.MaxSize)))
	}
	create(t, s, 0, "")
	was := state(s)
	done(t, "Append to MaxSize", s.Append(1, api.MaxSize, nil))
	done(t, "Append to none", s.Append(4, 0, nil))
	if state(s) != was {
		t.Errorf("Append of no bytes: %s, was %s", short(state(s)), short(was))
	}
}

func TestOffsets(t *testing.T) {
	for _, size := range []int{-1, 9} {
		s := New()
		id := create(t, s, size, "")
		done(t, "Append", s.Append(id, 0, []byte("abc")))
		for _, offset := range []int{0, 1, 2, 4, 5, 9, -1, -3, math.MaxInt, math.MinInt} {
			refusesAppend(t, s, id, offset, []byte("d"), api.ErrOffset)
			refusesAppend(t, s, id, offset, nil, api.ErrOffset)
		}
		done(t, "Append", s.Append(id, 3, []byte("d")))
		holds(t, s, 2, api.Upload{ID: id, Size: size, Bytes: []byte("abcd")})
		refusesAppend(t, s, id, 3, []byte("e"), api.ErrOffset)
	}
}

// An offset is held against the upload's own bytes.
func TestOffsetsOfTwo(t *testing.T) {
	s := New()
	create(t, s, -1, "")
	create(t, s, -1, "")
	done(t, "Append", s.Append(1, 0, []byte("ab")))
	refusesAppend(t, s, 2, 2, []byte("c"), api.ErrOffset)
	done(t, "Append", s.Append(2, 0, []byte("c")))
	refusesAppend(t, s, 1, 1, []byte("c"), api.ErrOffset)
	refusesAppend(t, s, 1, 3, []byte("c"), api.ErrOffset)
}

func TestAppendToMaxSize(t *testing.T) {
	for _, size := range []int{-1, api.MaxSize} {
		for _, have := range []int{0, 1, 1000, api.MaxSize} {
			s := New()
			id := create(t, s, size, "")
			done(t, "Append", s.Append(id, 0, some(have)))
			for _, more := range []int{1, 2, 1000, api.MaxSize, api.MaxQuota, 1 << 20} {
				refusesAppend(t, s, id, have, some(api.MaxSize-have+more), api.ErrLong)
			}
			done(t, "Append to MaxSize", s.Append(id, have, some(api.MaxSize-have)))
			refusesAppend(t, s, id, api.MaxSize, some(1), api.ErrLong)
			holds(t, s, 2, api.Upload{ID: id, Size: size, Bytes: some(api.MaxSize)})
		}
	}
}

func TestAppendToSize(t *testing.T) {
	for _, size := range []int{0, 1, 5, api.MaxSize - 1} {
		for _, later := range []bool{false, true} {
			s := New()
			id := 0
			if later {
				id = create(t, s, -1, "")
				done(t, "Declare", s.Declare(id, size))
			} else {
				id = create(t, s, size, "")
			}
			refusesAppend(t, s, id, 0, some(size+1), api.ErrLong)
			done(t, "Append", s.Append(id, 0, some(size/2)))
			refusesAppend(t, s, id, size/2, some(size-size/2+1), api.ErrLong)
			done(t, "Append", s.Append(id, size/2, some(size-size/2)))
			refusesAppend(t, s, id, size, some(1), api.ErrLong)
			holds(t, s, 2, api.Upload{ID: id, Size: size, Bytes: some(size)})
		}
	}
}

// full: uploads, the first ones with MaxSize bytes, with room for so many more
// in all; the last one has have bytes.
func full(t *testing.T, room, have int) (*Spool, int) {
	t.Helper()
	s := New()
	for left := api.MaxQuota - room - have; left > 0; {
		n := min(left, api.MaxSize)
		done(t, "Append", s.Append(create(t, s, -1, ""), 0, some(n)))
		left -= n
	}
	id := create(t, s, -1, "")
	done(t, "Append", s.Append(id, 0, some(have)))
	if s.Used() != api.MaxQuota-room {
		t.Fatalf("Used: %d, want %d", s.Used(), api.MaxQuota-room)
	}
	return s, id
}

func TestAppendToMaxQuota(t *testing.T) {
	for _, room := range []int{0, 1, 10, 999} {
		for _, have := range []int{0, 1, 1000} {
			s, id := full(t, room, have)
			refusesAppend(t, s, id, have, some(room+1), api.ErrFull)
			refusesAppend(t, s, id, have, some(api.MaxSize-have), api.ErrFull)
			refusesAppend(t, s, id, have, some(api.MaxSize-have+1), api.ErrLong)
			done(t, "Append to MaxQuota", s.Append(id, have, some(room)))
			if s.Used() != api.MaxQuota {
				t.Errorf("Used: %d, want %d", s.Used(), api.MaxQuota)
			}
			refusesAppend(t, s, id, have+room, some(1), api.ErrFull)
		}
	}
}

// What is dropped has no bytes any more; what was sent still has.
func TestRoomBehindDrop(t *testing.T) {
	s, id := full(t, 0, 0)
	done(t, "Declare", s.Declare(1, api.MaxSize))
	done(t, "Begin", s.Begin(1))
	refusesAppend(t, s, id, 0, some(1), api.ErrFull)
	done(t, "End", s.End(1))
	refusesAppend(t, s, id, 0, some(1), api.ErrFull)
	done(t, "Drop", s.Drop(1))
	if s.Used() != api.MaxQuota-api.MaxSize {
		t.Errorf("Used behind a Drop: %d", s.Used())
	}
	done(t, "Append", s.Append(id, 0, some(api.MaxSize)))
	if s.Used() != api.MaxQuota {
		t.Errorf("Used: %d", s.Used())
	}
}

func TestDeclare(t *testing.T) {
	for _, have := range []int{0, 1, 3, api.MaxSize} {
		s := New()
		id := create(t, s, -1, "m")
		done(t, "Append", s.Append(id, 0, some(have)))
		for _, size := range []int{-1, -2, math.MinInt} {
			refusesDeclare(t, s, id, size, api.ErrRange)
		}
		for _, size := range []int{api.MaxSize + 1, math.MaxInt} {
			refusesDeclare(t, s, id, size, api.ErrLong)
		}
		for size := range min(have, 5) {
			refusesDeclare(t, s, id, size, api.ErrLong)
		}
		if have > 0 {
			refusesDeclare(t, s, id, have-1, api.ErrLong)
		}
		for _, size := range []int{have, min(have+1, api.MaxSize), api.MaxSize} {
			k := s.Copy()
			done(t, "Declare", k.Declare(id, size))
			holds(t, k, 2, api.Upload{ID: id, Size: size, Meta: "m", Bytes: some(have)})
			for _, again := range []int{size, 0, have, api.MaxSize, -1, api.MaxSize + 1} {
				refusesDeclare(t, k, id, again, api.ErrDone)
			}
		}
	}
	for _, size := range []int{0, 1, api.MaxSize} {
		s := New()
		id := create(t, s, size, "")
		for _, again := range []int{size, 0, 1, api.MaxSize, -1, api.MaxSize + 1} {
			refusesDeclare(t, s, id, again, api.ErrDone)
		}
	}
	for _, sent := range []int{api.NotSent, api.Begun, api.Sent} {
		s := sentTo(t, sent)
		for _, size := range []int{-1, 0, 2, 3, api.MaxSize + 1} {
			refusesDeclare(t, s, 1, size, api.ErrDone)
		}
	}
}

func TestBeginAndEnd(t *testing.T) {
	u := api.Upload{ID: 1, Size: 3, Meta: "m", Bytes: []byte("abc")}
	s := sentTo(t, api.NotSent)
	holds(t, s, 2, u)
	refusesEnd(t, s, 1, api.ErrSent)
	done(t, "Begin", s.Begin(1))
	u.Sent = 1
	holds(t, s, 2, u)
	refusesBegin(t, s, 1, api.ErrSent)
	done(t, "End", s.End(1))
	u.Sent = 2
	holds(t, s, 2, u)
	refusesBegin(t, s, 1, api.ErrSent)
	refusesEnd(t, s, 1, api.ErrSent)
	refusesBegin(t, s, 2, api.ErrNone)
	refusesEnd(t, s, 2, api.ErrNone)
}

func TestBeginOfWhatIsNotWhole(t *testing.T) {
	s := New()
	a, b, c := create(t, s, 3, ""), create(t, s, -1, ""), create(t, s, 0, "")
	refusesBegin(t, s, a, api.ErrShort)
	refusesBegin(t, s, b, api.ErrShort)
	done(t, "Begin without bytes", s.Begin(c))
	done(t, "Append", s.Append(a, 0, []byte("ab")))
	done(t, "Append", s.Append(b, 0, []byte("ab")))
	refusesBegin(t, s, a, api.ErrShort)
	refusesBegin(t, s, b, api.ErrShort)
	refusesEnd(t, s, a, api.ErrSent)
	refusesEnd(t, s, b, api.ErrSent)
	done(t, "Append", s.Append(a, 2, []byte("c")))
	done(t, "Begin", s.Begin(a))
	k := s.Copy()
	done(t, "Declare", s.Declare(b, 2))
	done(t, "Begin", s.Begin(b))
	done(t, "Declare", k.Declare(b, 3))
	refusesBegin(t, k, b, api.ErrShort)
	holds(t, s, 4, api.Upload{ID: a, Size: 3, Bytes: []byte("abc"), Sent: 1}, api.Upload{ID: b, Size: 2, Bytes: []byte("ab"), Sent: 1}, api.Upload{ID: c, Sent: 1})
}

func TestAppendToWhatIsSent(t *testing.T) {
	for _, sent := range []int{api.Begun, api.Sent} {
		s := sentTo(t, sent)
		for _, offset := range []int{3, 0, 4, -1} {
			for _, n := range []int{0, 1, api.MaxSize, api.MaxQuota + 1} {
				refusesAppend(t, s, 1, offset, some(n), api.ErrSent)
			}
		}
	}
}

func TestDropInEachState(t *testing.T) {
	for _, sent := range []int{api.NotSent, api.Begun, api.Sent} {
		s := sentTo(t, sent)
		create(t, s, -1, "")
		done(t, "Append", s.Append(2, 0, []byte("de")))
		done(t, "Drop", s.Drop(1))
		holds(t, s, 3, api.Upload{ID: 2, Size: -1, Bytes: []byte("de")})
		refusesAll(t, s, 1)
	}
	// Of one that is not whole, too.
	for _, size := range []int{-1, 3} {
		s := New()
		create(t, s, size, "m")
		done(t, "Append", s.Append(1, 0, []byte("ab")))
		done(t, "Drop", s.Drop(1))
		holds(t, s, 2)
		refusesAll(t, s, 1)
	}
}

func TestDropOfEach(t *testing.T) {
	for at := range 4 {
		s := New()
		var want []api.Upload
		for n := range 4 {
			id := create(t, s, -1, fmt.Sprint(n))
			done(t, "Append", s.Append(id, 0, some(n)))
			want = append(want, api.Upload{ID: id, Size: -1, Meta: fmt.Sprint(n), Bytes: some(n)})
		}
		done(t, "Drop", s.Drop(at+1))
		want = slices.Delete(want, at, at+1)
		holds(t, s, 5, want...)
		refusesAll(t, s, at+1)
		// Those that are left are found behind it.
		for i := range want {
			done(t, "Append", s.Append(want[i].ID, len(want[i].Bytes), []byte("y")))
			want[i].Bytes = append(want[i].Bytes, 'y')
			holds(t, s, 5, want...)
		}
	}
}

func TestWhole(t *testing.T) {
	for _, size := range []int{-2, -1, 0, 1, 2, 3, api.MaxSize + 1, math.MinInt, math.MaxInt} {
		for _, have := range []int{0, 1, 2, 3, api.MaxSize + 1} {
			for _, sent := range []int{api.NotSent, api.Begun, api.Sent, 9} {
				u := api.Upload{ID: have, Size: size, Meta: "m", Bytes: some(have), Sent: sent}
				if got := Whole(u); got != (size == have) {
					t.Errorf("Whole of %d bytes of %d: %v", have, size, got)
				}
			}
		}
	}
	if !Whole(api.Upload{}) || Whole(api.Upload{Size: -1}) || Whole(api.Upload{Size: -1, Bytes: []byte{}}) {
		t.Errorf("Whole without bytes")
	}
	// What lies behind the bytes counts nowhere.
	if u := (api.Upload{Size: 2, Bytes: some(5)[:2]}); !Whole(u) {
		t.Errorf("Whole of a piece")
	}
}

func TestOrderOfCreateCodes(t *testing.T) {
	long := strings.Repeat("m", api.MaxMeta+1)
	for _, many := range []bool{false, true} {
		s := New()
		last := 0
		if many {
			for range api.MaxUploads {
				create(t, s, 0, "")
			}
			last = api.ErrMany
		}
		for _, hidden := range []string{"", " ", "\x00"} {
			for _, meta := range []string{"m" + hidden, long + hidden, hidden + long} {
				for _, size := range []int{-2, -1, 0, api.MaxSize, api.MaxSize + 1} {
					want := last
					if hidden != "" {
						want = api.ErrChar
					}
					if len(meta) > api.MaxMeta || size > api.MaxSize {
						want = api.ErrLong
					}
					if size == -2 {
						want = api.ErrRange
					}
					if want != 0 {
						refusesCreate(t, s, size, meta, want)
					}
				}
			}
		}
	}
}

func TestOrderOfAppendCodes(t *testing.T) {
	for _, room := range []int{0, 500} {
		for _, size := range []int{-1, 1600} {
			s, id := full(t, room, 1000)
			if size >= 0 {
				done(t, "Declare", s.Declare(id, size))
			}
			done(t, "Declare", s.Declare(1, api.MaxSize))
			done(t, "Begin", s.Begin(1))
			limit := api.MaxSize
			if size >= 0 {
				limit = size
			}
			for _, n := range []int{room, room + 1, limit - 1000, limit - 1000 + 1, 9999} {
				refusesAppend(t, s, 99, 5, some(n), api.ErrNone)
				refusesAppend(t, s, 1, api.MaxSize, some(n), api.ErrSent)
				refusesAppend(t, s, 1, 5, some(n), api.ErrSent)
				refusesAppend(t, s, id, 5, some(n), api.ErrOffset)
				switch {
				case 1000+n > limit:
					refusesAppend(t, s, id, 1000, some(n), api.ErrLong)
				case n > room:
					refusesAppend(t, s, id, 1000, some(n), api.ErrFull)
				}
			}
		}
	}
}

func TestOrderOfDeclareCodes(t *testing.T) {
	s := New()
	create(t, s, -1, "")
	done(t, "Append", s.Append(1, 0, some(5)))
	for _, size := range []int{-1, 4, api.MaxSize + 1} {
		refusesDeclare(t, s, 2, size, api.ErrNone)
	}
	refusesDeclare(t, s, 1, -1, api.ErrRange)
	refusesDeclare(t, s, 1, 4, api.ErrLong)
	refusesDeclare(t, s, 1, api.MaxSize+1, api.ErrLong)
	done(t, "Declare", s.Declare(1, 5))
	for _, size := range []int{-1, 4, api.MaxSize + 1} {
		refusesDeclare(t, s, 1, size, api.ErrDone)
	}
}

// Neither a copy nor what it was copied from is changed by what is done to the
// other one.
func TestCopy(t *testing.T) {
	steps := []func(s *Spool) int{
		func(s *Spool) int { _, code := s.Create(3, "new"); return code },
		func(s *Spool) int { return s.Append(1, 2, []byte("c")) },
		func(s *Spool) int { return s.Declare(2, 4) },
		func(s *Spool) int { return s.Drop(1) },
		func(s *Spool) int { return s.Drop(2) },
		func(s *Spool) int { return s.Begin(3) },
		func(s *Spool) int { return s.End(4) },
	}
	begin := func() *Spool {
		s := New()
		create(t, s, 3, "a")
		create(t, s, -1, "b")
		create(t, s, 1, "c")
		create(t, s, 0, "d")
		create(t, s, 0, "e")
		done(t, "Append", s.Append(1, 0, []byte("ab")))
		done(t, "Append", s.Append(2, 0, []byte("xyz")))
		done(t, "Append", s.Append(3, 0, []byte("z")))
		done(t, "Begin", s.Begin(4))
		done(t, "Drop", s.Drop(5))
		return s
	}
	for i, step := range steps {
		for j, other := range steps {
			s := begin()
			was := state(s)
			k := s.Copy()
			if k == s || state(k) != was || state(s) != was {
				t.Fatalf("Copy: %s, of %s", state(k), was)
			}
			done(t, fmt.Sprint("step ", i), step(s))
			if state(s) == was || state(k) != was {
				t.Errorf("step %d of what was copied: %s, and the copy %s", i, state(s), state(k))
			}
			first := state(s)
			done(t, fmt.Sprint("step ", j), other(k))
			if state(k) == was || state(s) != first {
				t.Errorf("step %d of the copy: %s, and what was copied %s", j, state(k), state(s))
			}
			alone := begin()
			done(t, fmt.Sprint("step ", j), other(alone))
			if state(k) != state(alone) {
				t.Errorf("step %d of the copy: %s, want %s", j, state(k), state(alone))
			}
		}
	}
}

// Both lay bytes behind the same ones.
func TestCopyAppendsApart(t *testing.T) {
	for have := range 40 {
		s := New()
		create(t, s, -1, "")
		for n := range have {
			done(t, "Append", s.Append(1, n, some(1)))
		}
		k := s.Copy()
		done(t, "Append", s.Append(1, have, []byte("s")))
		done(t, "Append", k.Append(1, have, []byte("k")))
		holds(t, s, 2, api.Upload{ID: 1, Size: -1, Bytes: append(some(have), 's')})
		holds(t, k, 2, api.Upload{ID: 1, Size: -1, Bytes: append(some(have), 'k')})
		create(t, s, 1, "s")
		create(t, k, 2, "k")
		holds(t, s, 3, api.Upload{ID: 1, Size: -1, Bytes: append(some(have), 's')}, api.Upload{ID: 2, Size: 1, Meta: "s"})
		holds(t, k, 3, api.Upload{ID: 1, Size: -1, Bytes: append(some(have), 'k')}, api.Upload{ID: 2, Size: 2, Meta: "k"})
	}
}

func TestCopyOfNone(t *testing.T) {
	s := New()
	k := s.Copy()
	create(t, s, 1, "")
	holds(t, k, 1)
	done(t, "Drop", s.Drop(1))
	k = s.Copy()
	holds(t, k, 2)
	create(t, k, 1, "")
	holds(t, s, 2)
	holds(t, k.Copy().Copy(), 3, api.Upload{ID: 2, Size: 1})
}

// spoil changes an upload that was answered, in all the memory that it has.
func spoil(u *api.Upload) {
	b := u.Bytes[:cap(u.Bytes)]
	for i := range b {
		b[i] = '!'
	}
	*u = api.Upload{ID: 99, Size: 99, Meta: "spoilt", Sent: 99}
}

func TestAnswersMayBeChanged(t *testing.T) {
	for have := range 40 {
		s := New()
		for id := 1; id <= 3; id++ {
			create(t, s, -1, "m")
			for n := range have {
				done(t, "Append", s.Append(id, n, some(1)))
			}
		}
		was := state(s)
		for id := 1; id <= 3; id++ {
			u, _ := s.Get(id)
			again, _ := s.Get(id)
			told := showOne(again)
			spoil(&u)
			if showOne(again) != told {
				t.Errorf("two answers of Get share memory: %s, was %s", showOne(again), told)
			}
		}
		l, other := s.List(), s.List()
		told := show(other)
		for i := range l {
			rest := show(l[i+1:])
			spoil(&l[i])
			if show(l[i+1:]) != rest {
				t.Errorf("two lists of one answer share memory: %s, was %s", show(l[i+1:]), rest)
			}
		}
		clear(l[:cap(l)])
		if show(other) != told || state(s) != was {
			t.Errorf("List shares memory: %s, %s, was %s", show(other), state(s), was)
		}
		// What the spool does later is not seen in an answer, either.
		u, _ := s.Get(1)
		done(t, "Append", s.Append(1, have, []byte("y")))
		if len(u.Bytes) != have || bytes.ContainsRune(u.Bytes[:cap(u.Bytes)], 'y') || show(other) != told {
			t.Errorf("an answer changed behind an Append: %q, %s", u.Bytes[:cap(u.Bytes)], show(other))
		}
	}
}

func TestListStaysBehindLaterSteps(t *testing.T) {
	s := sentTo(t, api.NotSent)
	create(t, s, -1, "n")
	l := s.List()
	told := show(l)
	done(t, "Begin", s.Begin(1))
	done(t, "Declare", s.Declare(2, 7))
	done(t, "Drop", s.Drop(1))
	create(t, s, 5, "o")
	if show(l) != told {
		t.Errorf("List changed behind later steps: %s, was %s", show(l), told)
	}
}

// What is handed to Append is neither changed nor kept, nor is what lies behind
// its length.
func TestAppendKeepsNothingOfWhatIsHandedIn(t *testing.T) {
	s := New()
	create(t, s, -1, "")
	memory := []byte("abcdef")
	done(t, "Append", s.Append(1, 0, memory[:2]))
	done(t, "Append", s.Append(1, 2, memory[:1]))
	done(t, "Append", s.Append(1, 3, memory[4:5]))
	if string(memory) != "abcdef" {
		t.Errorf("what was handed in became %q", memory)
	}
	clear(memory)
	holds(t, s, 2, api.Upload{ID: 1, Size: -1, Bytes: []byte("abae")})
	// An answer may be handed in again.
	u, _ := s.Get(1)
	done(t, "Append", s.Append(1, 4, u.Bytes))
	spoil(&u)
	holds(t, s, 2, api.Upload{ID: 1, Size: -1, Bytes: []byte("abaeabae")})
}

func TestMetaIsNewMemory(t *testing.T) {
	memory := []byte("meta of it")
	s := New()
	create(t, s, 1, unsafe.String(&memory[0], len(memory)))
	clear(memory)
	holds(t, s, 2, api.Upload{ID: 1, Size: 1, Meta: "meta of it"})
	place := func(u api.Upload) *byte { return unsafe.StringData(u.Meta) }
	u, _ := s.Get(1)
	v, _ := s.Get(1)
	w, _ := s.Copy().Get(1)
	places := map[*byte]int{}
	for _, u := range []api.Upload{u, v, w, s.List()[0], s.uploads[0]} {
		places[place(u)]++
	}
	if len(places) != 5 {
		t.Errorf("answers share the memory of a text")
	}
}

// Two spools know nothing of each other.
func TestTwoSpools(t *testing.T) {
	a, b := New(), New()
	create(t, a, 3, "a")
	holds(t, b, 1)
	create(t, b, 0, "b")
	done(t, "Begin", b.Begin(1))
	done(t, "Append", a.Append(1, 0, []byte("abc")))
	holds(t, a, 2, api.Upload{ID: 1, Size: 3, Meta: "a", Bytes: []byte("abc")})
	holds(t, b, 2, api.Upload{ID: 1, Meta: "b", Sent: 1})
}
