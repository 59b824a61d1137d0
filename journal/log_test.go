package journal

import (
	"bytes"
	"fmt"
	"math"
	"testing"

	"lighterage/api"
)

// holds: the log has just these bytes, so many of them made sure of.
func holds(t *testing.T, what string, l *Log, want []byte, sure int) {
	t.Helper()
	if got := l.Bytes(); !bytes.Equal(got, want) {
		t.Errorf("%s: Bytes: %s, want %s", what, short(got), short(want))
	}
	if got := l.Sure(); got != sure {
		t.Errorf("%s: Sure: %d, want %d", what, got, sure)
	}
	left := 100000 - len(want)
	for _, n := range []int{0, 1, left - 1, left, left + 1, 100000, 100001, -1, -2, math.MinInt, math.MaxInt, 1 << 32, -1 << 32} {
		if got := l.Room(n); got != (n >= 0 && n <= left) {
			t.Errorf("%s: Room(%d) with room for %d: %v", what, n, left, got)
		}
	}
}

func writes(t *testing.T, l *Log, b []byte) {
	t.Helper()
	if code := l.Write(b); code != 0 {
		t.Fatalf("Write of %d bytes: %d, want 0", len(b), code)
	}
}

func refusesWrite(t *testing.T, l *Log, b []byte) {
	t.Helper()
	was, sure, handed := l.Bytes(), l.Sure(), bytes.Clone(b)
	if code := l.Write(b); code != api.ErrFull {
		t.Errorf("Write of %d bytes behind %d: %d, want %d", len(b), len(was), code, api.ErrFull)
	}
	if !bytes.Equal(b, handed) {
		t.Errorf("Write changed what was handed in")
	}
	holds(t, "behind a Write that was refused", l, was, sure)
}

// logOf: some bytes that are made sure of, and some that are not.
func logOf(t *testing.T, sure, more int) (*Log, []byte) {
	t.Helper()
	l, all := New(), some(sure+more)
	writes(t, l, all[:sure])
	l.Sync()
	writes(t, l, all[sure:])
	return l, all
}

// ends: how logs stand when something is asked of them.
var ends = []struct{ sure, more int }{{0, 0}, {0, 1}, {0, 5}, {1, 0}, {3, 0}, {3, 1}, {3, 4}, {300, 400}, {99999, 1}, {100000, 0}, {0, 100000}}

func TestNew(t *testing.T) {
	l := New()
	holds(t, "New", l, nil, 0)
	l.Sync()
	holds(t, "Sync of nothing", l, nil, 0)
	for _, n := range []int{-1, 0, 1, math.MinInt, math.MaxInt} {
		l.Crash(n)
		holds(t, "Crash of nothing", l, nil, 0)
		l.Cut(n)
		holds(t, "Cut of nothing", l, nil, 0)
	}
	writes(t, l, []byte("a"))
	holds(t, "Write", l, []byte("a"), 0)
	// Another one knows nothing of it.
	holds(t, "New again", New(), nil, 0)
}

func TestWrite(t *testing.T) {
	l := New()
	writes(t, l, nil)
	holds(t, "Write of nothing", l, nil, 0)
	writes(t, l, []byte{})
	holds(t, "Write of nothing", l, nil, 0)
	writes(t, l, []byte("abc"))
	holds(t, "Write", l, []byte("abc"), 0)
	writes(t, l, nil)
	holds(t, "Write of nothing", l, []byte("abc"), 0)
	writes(t, l, []byte{0, 255, '\n'})
	holds(t, "Write", l, []byte{'a', 'b', 'c', 0, 255, '\n'}, 0)
	l.Sync()
	writes(t, l, []byte("d"))
	holds(t, "Write", l, []byte{'a', 'b', 'c', 0, 255, '\n', 'd'}, 6)
}

func TestMaxLog(t *testing.T) {
	for _, have := range []int{0, 1, 50000, 99998, 99999, 100000} {
		for _, synced := range []bool{false, true} {
			l, all := New(), some(100000)
			writes(t, l, all[:have])
			sure := 0
			if synced {
				l.Sync()
				sure = have
			}
			for _, more := range []int{1, 2, 1000, 100000, 1 << 20} {
				refusesWrite(t, l, some(100000-have+more))
			}
			writes(t, l, all[have:])
			holds(t, "just what is left", l, all, sure)
			refusesWrite(t, l, some(1))
			writes(t, l, nil)
			holds(t, "nothing behind all", l, all, sure)
			l.Cut(99999)
			holds(t, "one less", l, all[:99999], min(sure, 99999))
			refusesWrite(t, l, some(2))
			writes(t, l, all[99999:])
			holds(t, "one more", l, all, min(sure, 99999))
		}
	}
}

// What a log is read from has room, as far as a log has any.
func TestEntriesInALog(t *testing.T) {
	l := New()
	e := Entry{Append, 3, 0, some(2000)}
	one := whole(t, e)
	n := 0
	for l.Room(len(one)) {
		writes(t, l, one)
		n++
	}
	refusesWrite(t, l, one)
	l.Sync()
	writes(t, l, one[:100000-n*len(one)])
	got, size := Decode(l.Bytes())
	if n != 49 || len(got) != n || size != n*len(one) {
		t.Errorf("%d entries of %d bytes: %d of %d", n, n*len(one), len(got), size)
	}
	l.Cut(size)
	holds(t, "what is whole", l, bytes.Repeat(one, n), size)
}

func TestSync(t *testing.T) {
	for _, x := range ends {
		l, all := logOf(t, x.sure, x.more)
		holds(t, "ahead of Sync", l, all, x.sure)
		for range 3 {
			l.Sync()
			holds(t, "Sync", l, all, len(all))
		}
	}
}

func TestCrash(t *testing.T) {
	for _, x := range ends {
		for _, keep := range []int{math.MinInt, -2, -1, 0, 1, x.more / 2, x.more - 1, x.more, x.more + 1, x.sure + x.more, 100001, math.MaxInt - 1, math.MaxInt} {
			l, all := logOf(t, x.sure, x.more)
			l.Crash(keep)
			left := x.sure + min(max(keep, 0), x.more)
			what := fmt.Sprintf("Crash(%d) of %d and %d", keep, x.sure, x.more)
			holds(t, what, l, all[:left], left)
			// All that are left are made sure of: to crash again takes none.
			for _, again := range []int{keep, 0, -1, 1, math.MaxInt} {
				l.Crash(again)
				holds(t, what+" and again", l, all[:left], left)
			}
			l.Sync()
			holds(t, what+" and Sync", l, all[:left], left)
			if l.Room(3) {
				writes(t, l, []byte("xyz"))
				holds(t, what+" and Write", l, join(all[:left], []byte("xyz")), left)
				l.Crash(2)
				holds(t, what+" and Write and Crash", l, join(all[:left], []byte("xy")), left+2)
			}
		}
	}
}

// A Crash behind no Sync keeps what it is told, of several Writes, too.
func TestCrashOfSeveralWrites(t *testing.T) {
	for keep := -1; keep <= 8; keep++ {
		l := New()
		for _, s := range []string{"ab", "", "cde", "f"} {
			writes(t, l, []byte(s))
		}
		l.Crash(keep)
		left := "abcdef"[:min(max(keep, 0), 6)]
		holds(t, "Crash", l, []byte(left), len(left))
	}
}

func TestCut(t *testing.T) {
	for _, x := range ends {
		all := x.sure + x.more
		for _, n := range []int{math.MinInt, -2, -1, 0, 1, x.sure - 1, x.sure, x.sure + 1, all - 1, all, all + 1, 100001, math.MaxInt} {
			l, b := logOf(t, x.sure, x.more)
			l.Cut(n)
			left := all
			if n >= 0 && n < all {
				left = n
			}
			what := fmt.Sprintf("Cut(%d) of %d and %d", n, x.sure, x.more)
			holds(t, what, l, b[:left], min(x.sure, left))
			for _, again := range []int{n, -1, left, left + 1, all, math.MaxInt} {
				l.Cut(again)
				holds(t, what+" and again", l, b[:left], min(x.sure, left))
			}
			if l.Room(2) {
				writes(t, l, []byte("xy"))
				holds(t, what+" and Write", l, join(b[:left], []byte("xy")), min(x.sure, left))
			}
			l.Crash(0)
			holds(t, what+" and Crash", l, b[:min(x.sure, left)], min(x.sure, left))
		}
	}
}

// What was refused is not made sure of later, nor are bytes that were cut off.
func TestNothingComesBack(t *testing.T) {
	l := New()
	writes(t, l, []byte("abcdef"))
	l.Sync()
	refusesWrite(t, l, some(100000))
	l.Cut(2)
	l.Sync()
	holds(t, "Sync behind Cut", l, []byte("ab"), 2)
	l.Cut(6)
	holds(t, "Cut at what was", l, []byte("ab"), 2)
	writes(t, l, []byte("x"))
	holds(t, "Write behind Cut", l, []byte("abx"), 2)
	l.Crash(9)
	holds(t, "Crash behind Cut", l, []byte("abx"), 3)
}

func TestMemoryOfLog(t *testing.T) {
	memory := []byte("abcdefgh")
	l := New()
	writes(t, l, memory[1:4])
	if string(memory) != "abcdefgh" {
		t.Errorf("Write changed what was handed in, or what lies behind it: %q", memory)
	}
	copy(memory, "XXXXXXXX")
	holds(t, "what was written is changed", l, []byte("bcd"), 0)
	// A first Write into a log must not take the memory over.
	writes(t, l, []byte("ij"))
	if string(memory) != "XXXXXXXX" {
		t.Errorf("a later Write changed what was handed in: %q", memory)
	}
	got, other := l.Bytes(), l.Bytes()
	for i := range got[:cap(got)] {
		got[:cap(got)][i] = 'Y'
	}
	holds(t, "what was answered is changed", l, []byte("bcdij"), 0)
	if string(other) != "bcdij" {
		t.Errorf("two answers share memory: %q", other)
	}
	l.Sync()
	l.Cut(1)
	writes(t, l, []byte("ZZZZZZ"))
	if string(other) != "bcdij" {
		t.Errorf("an answer changes with the log: %q", other)
	}
	_ = append(l.Bytes(), "more"...)
	_ = append(l.Bytes()[:2], "less"...)
	holds(t, "an answer grows", l, []byte("bZZZZZZ"), 1)
	// What a log answered is written to it, and to another one.
	k := New()
	mine := l.Bytes()
	writes(t, l, mine)
	writes(t, k, mine)
	clear(mine)
	holds(t, "twice", l, []byte("bZZZZZZbZZZZZZ"), 1)
	holds(t, "another one", k, []byte("bZZZZZZ"), 0)
	k.Cut(0)
	writes(t, k, []byte("k"))
	holds(t, "the first one", l, []byte("bZZZZZZbZZZZZZ"), 1)
	holds(t, "another one", k, []byte("k"), 0)
}

// plainByte of a log, as the chapter tells it: each byte is made sure of or
// not.
type plainByte struct {
	c    byte
	sure bool
}

// plainStep does one step to a plain log, and to a log.
func plainStep(t *testing.T, l *Log, plain []plainByte, step, n int) []plainByte {
	t.Helper()
	switch step {
	case 0:
		b := some(max(n, 0))
		if len(plain)+len(b) > 100000 {
			refusesWrite(t, l, b)
			return plain
		}
		writes(t, l, b)
		for _, c := range b {
			plain = append(plain, plainByte{c, false})
		}
	case 1:
		l.Sync()
		for i := range plain {
			plain[i].sure = true
		}
	case 2:
		l.Crash(n)
		kept := 0
		var left []plainByte
		for _, x := range plain {
			if x.sure || kept < n {
				if !x.sure {
					kept++
				}
				left = append(left, plainByte{x.c, true})
			}
		}
		return left
	case 3:
		l.Cut(n)
		if n >= 0 && n < len(plain) {
			plain = plain[:n]
		}
	}
	return plain
}

func holdsPlain(t *testing.T, what string, l *Log, plain []plainByte) {
	t.Helper()
	var want []byte
	sure := 0
	for _, x := range plain {
		want = append(want, x.c)
		if x.sure {
			sure++
		}
	}
	holds(t, what, l, want, sure)
}

// All short walks of steps, with small numbers.
func TestShortWalks(t *testing.T) {
	steps := []struct{ step, n int }{
		{0, 0}, {0, 1}, {0, 3}, {1, 0}, {2, -1}, {2, 0}, {2, 1}, {2, 2}, {2, 9}, {3, -1}, {3, 0}, {3, 1}, {3, 2}, {3, 4},
	}
	const most = 5
	count := 1
	for range most {
		count *= len(steps)
	}
	for walk := range count {
		l := New()
		var plain []plainByte
		rest := walk
		for range most {
			x := steps[rest%len(steps)]
			rest /= len(steps)
			plain = plainStep(t, l, plain, x.step, x.n)
		}
		if holdsPlain(t, fmt.Sprintf("walk %d", walk), l, plain); t.Failed() {
			return
		}
	}
}

// Long walks that come to MaxLog, by numbers that a rule makes.
func TestLongWalks(t *testing.T) {
	seed := uint64(1)
	next := func(n int) int {
		seed = seed*6364136223846793005 + 1442695040888963407
		return int(seed>>33) % n
	}
	full := 0
	for walk := range 20 {
		l := New()
		var plain []plainByte
		for i := range 150 {
			step, n := []int{0, 0, 0, 0, 0, 0, 1, 1, 2, 3}[next(10)], next(9000)
			if step == 3 && next(3) > 0 {
				n = len(plain) - 50 + next(100)
			}
			if step == 0 && len(plain)+n > 100000 {
				full++
			}
			plain = plainStep(t, l, plain, step, n)
			if holdsPlain(t, fmt.Sprintf("walk %d, step %d", walk, i), l, plain); t.Failed() {
				return
			}
		}
	}
	if full == 0 {
		t.Errorf("no walk came to MaxLog")
	}
}
