package journal

import (
	"bytes"
	"fmt"
	"math"
	"slices"
	"testing"

	"lighterage/api"
)

func showOne(e Entry) string {
	return fmt.Sprintf("%d %d %d %s", e.Kind, e.ID, e.N, short(e.Text))
}

func show(l []Entry) string {
	out := ""
	for i, e := range l {
		if i == 20 {
			return fmt.Sprintf("%s .. (%d entries)", out, len(l))
		}
		out += showOne(e) + "|"
	}
	return out
}

func short(b []byte) string {
	if len(b) > 60 {
		return fmt.Sprintf("%v .. (%d bytes)", b[:30], len(b))
	}
	return fmt.Sprint(b)
}

func alike(l, k []Entry) bool {
	return slices.EqualFunc(l, k, func(a, b Entry) bool {
		return a.Kind == b.Kind && a.ID == b.ID && a.N == b.N && bytes.Equal(a.Text, b.Text)
	})
}

// some: n bytes, no two alike that stand beside each other.
func some(n int) []byte {
	b := make([]byte, n)
	for i := range b {
		b[i] = byte(i)
	}
	return b
}

// edges: numbers that may be and that may not.
func edges() []int {
	return []int{
		math.MinInt, -1 << 32, -1<<32 + 5, -3, -2, -1, 0, 1, 2, 62, 63, 64, 125, 126, 127, 128, 129, 200, 254, 255, 256,
		1<<14 - 2, 1<<14 - 1, 1 << 14, 1<<21 - 2, 1<<21 - 1, 1 << 21, 1<<28 - 2, 1<<28 - 1, 1 << 28,
		1<<30 - 2, 1<<30 - 1, 1 << 30, 1<<30 + 1, 1<<31 - 1, 1 << 31, 1<<32 - 1, 1 << 32, 1<<32 + 5, 1<<35 - 2, 1<<35 - 1, 1 << 35, math.MaxInt,
	}
}

func encodes(t *testing.T, e Entry, want []byte) {
	t.Helper()
	if b, code := Encode(e); code != 0 || !bytes.Equal(b, want) {
		t.Errorf("Encode(%s): %s, %d, want %s, 0", showOne(e), short(b), code, short(want))
	}
}

func refusesEncode(t *testing.T, e Entry) {
	t.Helper()
	if b, code := Encode(e); code != api.ErrRange || len(b) != 0 {
		t.Errorf("Encode(%s): %s, %d, want no bytes, %d", showOne(e), short(b), code, api.ErrRange)
	}
}

func decodes(t *testing.T, b []byte, n int, want ...Entry) {
	t.Helper()
	was := bytes.Clone(b)
	if l, size := Decode(b); size != n || !alike(l, want) {
		t.Errorf("Decode(%s): %s, %d, want %s, %d", short(b), show(l), size, show(want), n)
	}
	if !bytes.Equal(b, was) {
		t.Errorf("Decode(%s) changed what was handed in", short(was))
	}
}

// whole: these entries, written one behind the other.
func whole(t *testing.T, l ...Entry) (b []byte) {
	t.Helper()
	for _, e := range l {
		one, code := Encode(e)
		if code != 0 {
			t.Fatalf("Encode(%s): %d, want 0", showOne(e), code)
		}
		b = append(b, one...)
	}
	return b
}

// join: bytes behind bytes, in new memory.
func join(l ...[]byte) []byte { return bytes.Join(l, nil) }

// isNone: no entry stands there whole; those that stand ahead are read.
func isNone(t *testing.T, b []byte) {
	t.Helper()
	good := Entry{Append, 7, 0, []byte("good")}
	ahead := whole(t, good)
	decodes(t, b, 0)
	decodes(t, join(ahead, b), len(ahead), good)
	decodes(t, join(ahead, ahead, b), 2*len(ahead), good, good)
}

// isNoneAhead: nor are those read that stand behind it.
func isNoneAhead(t *testing.T, b []byte) {
	t.Helper()
	isNone(t, b)
	good := whole(t, Entry{Append, 7, 0, []byte("good")})
	isNone(t, join(b, good))
	isNone(t, join(b, good, good))
}

func TestKindsAreAsTheChapterTells(t *testing.T) {
	got := []int{Create, Append, Declare, Drop, Begin, End}
	if want := []int{1, 2, 3, 4, 5, 6}; !slices.Equal(got, want) {
		t.Errorf("kinds: %v, want %v", got, want)
	}
}

func TestEncode(t *testing.T) {
	encodes(t, Entry{Create, 200, -1, []byte("m")}, []byte{6, 2, 201, 1, 0, 'm'})
	encodes(t, Entry{Append, 3, 0, []byte("abc")}, []byte{7, 3, 4, 1, 'a', 'b', 'c'})
	encodes(t, Entry{Declare, 3, 4, nil}, []byte{4, 4, 4, 5})
	encodes(t, Entry{Drop, 1, 0, []byte{}}, []byte{4, 5, 2, 1})
	encodes(t, Entry{Begin, 2, 0, nil}, []byte{4, 6, 3, 1})
	encodes(t, Entry{End, 2, 9, []byte{0}}, []byte{5, 7, 3, 10, 0})
	// Of no kind is it asked what its N and Text are for.
	encodes(t, Entry{End, -1, 127, []byte{0, 128, 255, '\r', '\n'}}, []byte{10, 7, 0, 128, 1, 0, 128, 255, '\r', '\n'})
}

func TestEncodeOfEachKind(t *testing.T) {
	for kind := 1; kind <= 6; kind++ {
		encodes(t, Entry{Kind: kind}, []byte{4, byte(kind + 1), 1, 1})
		encodes(t, Entry{kind, 5, 6, []byte("x")}, []byte{5, byte(kind + 1), 6, 7, 'x'})
	}
	for _, kind := range edges() {
		if kind < 1 || kind > 6 {
			refusesEncode(t, Entry{Kind: kind})
			refusesEncode(t, Entry{kind, 5, 6, []byte("x")})
		}
	}
	refusesEncode(t, Entry{})
	refusesEncode(t, Entry{Kind: 7})
}

// numbers that an ID and an N may be, and their bytes.
var numbers = []struct {
	n int
	b []byte
}{
	{-1, []byte{0}},
	{0, []byte{1}},
	{1, []byte{2}},
	{125, []byte{126}},
	{126, []byte{127}},
	{127, []byte{128, 1}},
	{128, []byte{129, 1}},
	{254, []byte{255, 1}},
	{255, []byte{128, 2}},
	{1<<14 - 2, []byte{255, 127}},
	{1<<14 - 1, []byte{128, 128, 1}},
	{1<<21 - 2, []byte{255, 255, 127}},
	{1<<21 - 1, []byte{128, 128, 128, 1}},
	{1<<28 - 2, []byte{255, 255, 255, 127}},
	{1<<28 - 1, []byte{128, 128, 128, 128, 1}},
	{1<<30 - 2, []byte{255, 255, 255, 255, 3}},
	{1<<30 - 1, []byte{128, 128, 128, 128, 4}},
}

func TestNumbers(t *testing.T) {
	for _, x := range numbers {
		size := byte(len(x.b))
		id := join([]byte{3 + size + 1 + 1, 3}, x.b, []byte{9, 't', 'u'})
		encodes(t, Entry{Append, x.n, 8, []byte("tu")}, id)
		decodes(t, id, len(id), Entry{Append, x.n, 8, []byte("tu")})
		n := join([]byte{3 + size + 1 + 1, 3, 9}, x.b, []byte("tu"))
		encodes(t, Entry{Append, 8, x.n, []byte("tu")}, n)
		decodes(t, n, len(n), Entry{Append, 8, x.n, []byte("tu")})
		for _, y := range numbers {
			both := join([]byte{byte(1 + len(x.b) + len(y.b) + 1), 7}, x.b, y.b)
			encodes(t, Entry{End, x.n, y.n, nil}, both)
			decodes(t, both, len(both), Entry{End, x.n, y.n, nil})
		}
	}
}

func TestEncodeOfNumbersThatMayNotBe(t *testing.T) {
	for _, n := range edges() {
		if n >= -1 && n <= 1<<30-1 {
			continue
		}
		for kind := 1; kind <= 6; kind++ {
			refusesEncode(t, Entry{kind, n, 0, nil})
			refusesEncode(t, Entry{kind, 0, n, nil})
			refusesEncode(t, Entry{kind, n, n, []byte("x")})
		}
		refusesEncode(t, Entry{7, n, n, some(1 << 20)})
	}
}

func TestEncodeOfTexts(t *testing.T) {
	texts := []struct {
		size int
		b    []byte // how many bytes follow
	}{
		{0, []byte{4}},
		{1, []byte{5}},
		{122, []byte{126}},
		{123, []byte{127}},
		{124, []byte{128, 1}},
		{125, []byte{129, 1}},
		{1<<14 - 5, []byte{255, 127}},
		{1<<14 - 4, []byte{128, 128, 1}},
		{1<<20 - 2, []byte{130, 128, 64}},
		{1<<20 - 1, []byte{131, 128, 64}},
	}
	for _, x := range texts {
		e := Entry{Append, 1, 0, some(x.size)}
		b := join(x.b, []byte{3, 2, 1}, some(x.size))
		encodes(t, e, b)
		decodes(t, b, len(b), e)
		decodes(t, join(b, b), 2*len(b), e, e)
		decodes(t, b[:len(b)-1], 0)
		decodes(t, join(b, b[:len(b)-1]), len(b), e)
	}
	for _, size := range []int{1 << 20, 1<<20 + 1, 1 << 21, 1 << 24} {
		refusesEncode(t, Entry{Append, 1, 0, some(size)})
		refusesEncode(t, Entry{Kind: Append, ID: 1, Text: make([]byte, size)})
	}
	// Its greatest entry of all.
	e := Entry{End, 1<<30 - 1, 1<<30 - 1, some(1<<20 - 1)}
	b := join([]byte{139, 128, 64, 7, 128, 128, 128, 128, 4, 128, 128, 128, 128, 4}, some(1<<20-1))
	encodes(t, e, b)
	decodes(t, b, len(b), e)
}

func TestDecodeOfNothing(t *testing.T) {
	decodes(t, nil, 0)
	decodes(t, []byte{}, 0)
}

// One behind the other, cut off at each place: as far as entries are whole.
func TestDecodeOfWhatIsCutOff(t *testing.T) {
	l := []Entry{
		{Create, 1, -1, []byte("filename a.txt")},
		{Append, 1, 0, some(300)},
		{Declare, 1, 1<<30 - 1, nil},
		{Begin, 127, 0, nil},
		{Begin, 127, 0, nil},
		{End, 128, 126, []byte{0}},
		{Drop, -1, -1, []byte{4, 2, 1, 1}},
		{Create, 1<<30 - 1, 2000, nil},
	}
	all := whole(t, l...)
	ends := []int{0}
	for i := range l {
		ends = append(ends, len(whole(t, l[:i+1]...)))
	}
	for cut := range len(all) + 1 {
		n := 0
		for n < len(l) && ends[n+1] <= cut {
			n++
		}
		decodes(t, all[:cut:cut], ends[n], l[:n]...)
		// What lies behind its length is not there.
		decodes(t, all[:cut], ends[n], l[:n]...)
		decodesAsPlain(t, all[cut:])
	}
}

func TestNumbersThatAreNone(t *testing.T) {
	none := [][]byte{
		// Not over within five bytes.
		{128, 128, 128, 128, 128, 1},
		{129, 128, 128, 128, 128, 1},
		{255, 255, 255, 255, 255, 1},
		{128, 128, 128, 128, 128, 0},
		{133, 128, 128, 128, 128, 128, 128, 128, 128, 1},
		{130, 128, 128, 128, 128, 128, 128, 128, 128, 128, 1}, // what lies beyond 64 bits counts, too
		{128, 128, 128, 128, 128},
		{255, 255, 255, 255, 255},
		// The last one of several is 0.
		{128, 0},
		{130, 0},
		{133, 0},
		{255, 0},
		{128, 128, 0},
		{130, 128, 0},
		{128, 129, 0},
		{130, 128, 128, 0},
		{130, 128, 128, 128, 0},
		{255, 255, 255, 255, 0},
		// Greater than it may be.
		{129, 128, 128, 128, 4},
		{130, 128, 128, 128, 4},
		{255, 128, 128, 128, 4},
		{128, 128, 128, 128, 5},
		{128, 128, 128, 128, 8},
		{128, 128, 128, 128, 16},
		{130, 128, 128, 128, 16},
		{128, 128, 128, 128, 64},
		{255, 255, 255, 255, 127},
	}
	for _, b := range none {
		size := byte(len(b))
		isNoneAhead(t, join([]byte{size + 3}, b, []byte{2, 2}))
		isNoneAhead(t, join([]byte{size + 3, 2}, b, []byte{2}))
		isNoneAhead(t, join([]byte{size + 3, 2, 2}, b))
		isNoneAhead(t, join([]byte{size + 23, 2, 2}, b, some(20)))
		isNoneAhead(t, join([]byte{size + 22, 2}, b, some(20)))
		isNoneAhead(t, join(b, []byte{2, 2, 2}))
		isNoneAhead(t, join(b, []byte{2, 2, 2}, some(200)))
		isNoneAhead(t, b)
	}
}

// Numbers that would be right with fewer bytes.
func TestNumbersOfMoreBytesThanNeeded(t *testing.T) {
	isNoneAhead(t, []byte{132, 0, 2, 2, 2})
	isNoneAhead(t, []byte{132, 128, 0, 2, 2, 2})
	isNoneAhead(t, []byte{132, 128, 128, 128, 0, 2, 2, 2})
	isNoneAhead(t, []byte{5, 130, 0, 2, 2})
	isNoneAhead(t, []byte{5, 2, 130, 0, 2})
	isNoneAhead(t, []byte{5, 2, 2, 130, 0})
	isNoneAhead(t, []byte{5, 2, 2, 128, 0})
	isNoneAhead(t, []byte{6, 2, 201, 129, 0, 2})
	decodes(t, []byte{5, 2, 201, 1, 2}, 5, Entry{Create, 200, 1, nil})
	decodes(t, []byte{4, 2, 0, 0}, 4, Entry{Create, -1, -1, nil})
}

func TestKindsThatThereAreNoneOf(t *testing.T) {
	for c := range 128 {
		b := []byte{5, byte(c), 1, 1, 't'}
		if c >= 2 && c <= 7 {
			decodes(t, b, 5, Entry{c - 1, 0, 0, []byte("t")})
			continue
		}
		isNoneAhead(t, b)
	}
	for _, kind := range [][]byte{{130, 1}, {130, 2}, {135, 1}, {130, 128, 1}, {130, 128, 128, 1}, {130, 128, 128, 128, 1}} {
		isNoneAhead(t, join([]byte{byte(len(kind) + 3)}, kind, []byte{1, 1}))
	}
}

// What says that more bytes follow than there are is none; where more stand
// there, they are its Text.
func TestMoreBytesToldThanFollow(t *testing.T) {
	inner := []byte{3, 2, 1, 'a', 'b', 'c'}
	for c := range 128 {
		b := join([]byte{byte(c)}, inner)
		follow := c - 1
		switch {
		case follow > len(inner):
			isNone(t, b)
		case follow >= 3:
			decodes(t, b, 1+follow, Entry{Append, 1, 0, inner[3:follow]})
		default:
			isNoneAhead(t, b)
		}
	}
	for _, ahead := range [][]byte{{128, 1}, {255, 127}, {255, 255, 127}, {255, 255, 255, 127}, {128, 128, 128, 128, 4}, {255, 255, 255, 255, 127}} {
		isNone(t, join(ahead, inner))
	}
	// Where another entry stands behind it, that is taken for its Text.
	next := whole(t, Entry{Begin, 1, 0, nil})
	decodes(t, join([]byte{11}, inner, next, next), 15, Entry{Append, 1, 0, join([]byte("abc"), next)}, Entry{Begin, 1, 0, nil})
	decodes(t, join([]byte{9}, inner, next), 9, Entry{Append, 1, 0, join([]byte("abc"), next[:2])})
}

// What says that fewer bytes follow leaves the others to the next entry.
func TestFewerBytesToldThanFollow(t *testing.T) {
	rest := whole(t, Entry{Begin, 9, 0, nil})
	b := join([]byte{4, 3, 2, 1}, rest)
	decodes(t, b, len(b), Entry{Append, 1, 0, nil}, Entry{Begin, 9, 0, nil})
	b = join([]byte{5, 3, 2, 1, 'a', 'b'}, rest)
	decodes(t, b, 5, Entry{Append, 1, 0, []byte("a")})
}

// Its numbers stand ahead of the end that it tells, or it is none.
func TestNumbersThatDontStandAmongWhatFollows(t *testing.T) {
	inners := [][]byte{
		{2, 2, 2},
		{2, 201, 1, 2},
		{2, 2, 201, 1},
		{2, 128, 128, 128, 128, 4, 2},
		{2, 128, 128, 128, 128, 4, 128, 128, 128, 128, 4},
	}
	for _, inner := range inners {
		for follow := -1; follow < len(inner); follow++ {
			isNoneAhead(t, join([]byte{byte(follow + 1)}, inner))
		}
		b := join([]byte{byte(len(inner) + 1)}, inner)
		if l, n := Decode(b); len(l) != 1 || n != len(b) {
			t.Errorf("Decode(%s): %s, %d", short(b), show(l), n)
		}
	}
	isNoneAhead(t, []byte{0})
	isNoneAhead(t, []byte{1})
	isNoneAhead(t, []byte{2, 2})
	isNoneAhead(t, []byte{3, 2, 2})
}

func TestDecodeOfTextsThatAreTooLong(t *testing.T) {
	for _, size := range []int{1 << 20, 1<<20 + 1, 1 << 21, 1 << 22} {
		b := join(plainNumber(3+size), []byte{3, 2, 1}, some(size))
		isNoneAhead(t, b)
	}
	b := join(plainNumber(3+1<<20-1), []byte{3, 2, 1}, some(1<<20-1))
	decodes(t, b, len(b), Entry{Append, 1, 0, some(1<<20 - 1)})
}

func TestThereAndBack(t *testing.T) {
	var l []Entry
	for kind := 1; kind <= 6; kind++ {
		for _, id := range edges() {
			for _, n := range edges() {
				e := Entry{kind, id, n, some((len(l) * 7) % 150)}
				b, code := Encode(e)
				if code != 0 {
					continue
				}
				decodes(t, b, len(b), e)
				l = append(l, e)
			}
		}
	}
	b := whole(t, l...)
	decodes(t, b, len(b), l...)
	decodes(t, b[:len(b)-1], len(b)-len(whole(t, l[len(l)-1])), l[:len(l)-1]...)
}

// Back and there: what was read is written as it stood.
func TestBackAndThere(t *testing.T) {
	allTexts(nil, []byte{0, 1, 2, 4, 5, 8, 128}, 6, func(b []byte) {
		l, n := Decode(b)
		if again := whole(t, l...); !bytes.Equal(again, b[:n]) {
			t.Fatalf("Decode(%v): %s, %d, which is %v", b, show(l), n, again)
		}
	})
}

func TestMemoryOfEncode(t *testing.T) {
	memory := []byte("abcdef")
	e := Entry{Append, 1, 0, memory[1:3]}
	b, _ := Encode(e)
	k, _ := Encode(e)
	want := []byte{6, 3, 2, 1, 'b', 'c'}
	if string(memory) != "abcdef" {
		t.Errorf("Encode changed what was handed in, or what lies behind it: %q", memory)
	}
	copy(memory, "XXXXXX")
	if !bytes.Equal(b, want) {
		t.Errorf("Encode shares memory with what was handed in: %v", b)
	}
	clear(b[:cap(b)])
	if !bytes.Equal(k, want) || string(memory) != "XXXXXX" {
		t.Errorf("Encode shares memory with another answer, or with what was handed in: %v, %q", k, memory)
	}
	// A Text that has room behind it.
	room := append(make([]byte, 0, 100), "xy"...)
	if b, _ = Encode(Entry{Create, 0, 0, room}); !bytes.Equal(b, []byte{6, 2, 1, 1, 'x', 'y'}) {
		t.Errorf("Encode: %v", b)
	}
	if behind := room[2:cap(room)]; !bytes.Equal(behind, make([]byte, 98)) {
		t.Errorf("Encode wrote behind the length of Text: %v", behind)
	}
}

func TestMemoryOfDecode(t *testing.T) {
	l := []Entry{{Append, 1, 0, []byte("abc")}, {Append, 2, 0, nil}, {Append, 3, 0, []byte("def")}, {Create, 4, 0, []byte("g")}}
	all := whole(t, l...)
	memory := join(all, []byte("behind"))
	got, _ := Decode(memory[:len(all)])
	other, _ := Decode(memory[:len(all)])
	// Each Text is changed, and what its memory has behind it, too.
	for i := range got {
		text := got[i].Text
		for j := range text[:cap(text)] {
			text[:cap(text)][j] = 'X'
		}
		for k := range got {
			want := bytes.Repeat([]byte("X"), len(l[k].Text))
			if k > i {
				want = l[k].Text
			}
			if !bytes.Equal(got[k].Text, want) {
				t.Errorf("Text %d was changed with %d: %q", k, i, got[k].Text)
			}
		}
	}
	clear(got[:cap(got)])
	if !alike(other, l) {
		t.Errorf("two answers share memory: %s", show(other))
	}
	if !bytes.Equal(memory, join(all, []byte("behind"))) {
		t.Errorf("what was handed in was changed: %v", memory)
	}
	clear(memory)
	if !alike(other, l) {
		t.Errorf("an answer shares memory with what was handed in: %s", show(other))
	}
}

// Many entries, and much that is none, are read in good time.
func TestDecodeOfMuch(t *testing.T) {
	one := Entry{Begin, 0, 0, nil}
	b := bytes.Repeat(whole(t, one), 250000)
	l, n := Decode(b)
	if len(l) != 250000 || n != len(b) {
		t.Errorf("Decode of many: %d entries, %d bytes", len(l), n)
	}
	for _, c := range []byte{0, 1, 2, 3, 127, 128, 255} {
		decodes(t, bytes.Repeat([]byte{c}, 1<<20), 0)
	}
	// 5 5 5 5 5 .. says Drop of 4, N 4 with a Text of one byte.
	l, n = Decode(bytes.Repeat([]byte{5}, 1<<20))
	if len(l) != 1<<20/5 || n != 1<<20/5*5 || showOne(l[9]) != showOne(Entry{Drop, 4, 4, []byte{5}}) {
		t.Errorf("Decode of 5s: %d entries, %d bytes", len(l), n)
	}
}
