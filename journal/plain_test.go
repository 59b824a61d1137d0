package journal

import (
	"bytes"
	"fmt"
	"strconv"
	"strings"
	"testing"

	"lighterage/api"
)

// What stands here is the chapter read plainly, with no thought of speed: the
// program is held against it.

// plainNumber: n + 1 as a text of bits, cut into sevens from its end.
func plainNumber(n int) (b []byte) {
	text := strconv.FormatInt(int64(n)+1, 2)
	for len(text)%7 != 0 {
		text = "0" + text
	}
	for len(text) > 0 {
		part, err := strconv.ParseUint(text[len(text)-7:], 2, 8)
		if err != nil {
			panic(err)
		}
		text = text[:len(text)-7]
		if len(text) > 0 {
			part += 128
		}
		b = append(b, byte(part))
	}
	return b
}

// plainIsWrong: does the chapter have a code for it?
func plainIsWrong(e Entry) bool {
	kind := e.Kind == 1 || e.Kind == 2 || e.Kind == 3 || e.Kind == 4 || e.Kind == 5 || e.Kind == 6
	id := -1 <= e.ID && e.ID < 1073741824
	n := -1 <= e.N && e.N < 1073741824
	return !kind || !id || !n || len(e.Text) >= 1048576
}

func plainEncode(e Entry) ([]byte, int) {
	if plainIsWrong(e) {
		return nil, api.ErrRange
	}
	inner := bytes.Join([][]byte{plainNumber(e.Kind), plainNumber(e.ID), plainNumber(e.N), e.Text}, nil)
	return append(plainNumber(len(inner)), inner...), 0
}

// plainRead: a number, and what stands behind it.
func plainRead(b []byte) (n int, rest []byte, ok bool) {
	text := ""
	for i := range 5 {
		if i == len(b) {
			return 0, nil, false
		}
		bits := fmt.Sprintf("%08b", b[i])
		text = bits[1:] + text
		if bits[0] == '1' {
			continue
		}
		if i > 0 && !strings.Contains(bits, "1") {
			return 0, nil, false
		}
		sum, err := strconv.ParseInt(text, 2, 64)
		return int(sum) - 1, b[i+1:], err == nil
	}
	return 0, nil, false
}

// plainEntry: the entry that stands whole at the beginning, and what stands
// behind it.
func plainEntry(b []byte) (e Entry, rest []byte, ok bool) {
	follow, rest, ok := plainRead(b)
	if !ok || follow < 0 || len(rest) < follow {
		return Entry{}, nil, false
	}
	inner, rest := rest[:follow], rest[follow:]
	for _, n := range []*int{&e.Kind, &e.ID, &e.N} {
		if *n, inner, ok = plainRead(inner); !ok {
			return Entry{}, nil, false
		}
	}
	e.Text = inner
	return e, rest, !plainIsWrong(e)
}

func plainDecode(b []byte) (l []Entry, n int) {
	rest := b
	for {
		e, behind, ok := plainEntry(rest)
		if !ok {
			return l, len(b) - len(rest)
		}
		l, rest = append(l, e), behind
	}
}

// allTexts hands over each text of at most so many bytes of that alphabet,
// with ahead in front of it.
func allTexts(ahead, alphabet []byte, most int, use func(b []byte)) {
	use(ahead)
	if most == 0 {
		return
	}
	for _, c := range alphabet {
		allTexts(append(ahead[:len(ahead):len(ahead)], c), alphabet, most-1, use)
	}
}

func TestDecodeOfAllShortTexts(t *testing.T) {
	sets := []struct {
		ahead, alphabet []byte
		most            int
	}{
		{nil, []byte{0, 1, 2, 3, 4, 5, 6, 7, 8, 127, 128, 129, 255}, 5},
		{nil, []byte{0, 1, 4, 5, 128}, 8},
		{[]byte{11}, []byte{0, 1, 2, 127, 128, 255}, 7},
		{[]byte{8, 2, 1}, []byte{0, 4, 5, 127, 128, 255}, 7},
		{[]byte{4, 7, 0, 0}, []byte{0, 1, 4, 5, 128}, 7},
	}
	for _, set := range sets {
		allTexts(set.ahead, set.alphabet, set.most, func(b []byte) {
			if t.Failed() {
				return
			}
			decodesAsPlain(t, b)
		})
	}
}

func decodesAsPlain(t *testing.T, b []byte) {
	t.Helper()
	got, n := Decode(b)
	want, m := plainDecode(b)
	if n != m || !alike(got, want) {
		t.Errorf("Decode(%s): %s, %d, want %s, %d", short(b), show(got), n, show(want), m)
	}
}

func TestEncodeAgainstThePlainReading(t *testing.T) {
	numbers := edges()
	for kind := -2; kind <= 9; kind++ {
		for _, id := range numbers {
			for _, n := range numbers {
				for _, size := range []int{0, 1, 115, 120, 124, 130} {
					e := Entry{kind, id, n, some(size)}
					got, code := Encode(e)
					want, wantCode := plainEncode(e)
					if code != wantCode || !bytes.Equal(got, want) {
						t.Fatalf("Encode(%s): %s, %d, want %s, %d", showOne(e), short(got), code, short(want), wantCode)
					}
				}
			}
		}
	}
}

// Logs with one byte that is not what it was.
func TestDecodeOfWhatWasChanged(t *testing.T) {
	log := whole(t,
		Entry{Create, 1, 5, []byte("m")},
		Entry{Append, 200, 0, some(130)},
		Entry{Declare, 1 << 20, 1<<30 - 1, nil},
		Entry{Drop, -1, -1, []byte("x")},
	)
	for at := range log {
		for c := range 256 {
			b := bytes.Clone(log)
			b[at] = byte(c)
			decodesAsPlain(t, b)
		}
		decodesAsPlain(t, append(bytes.Clone(log[:at]), log[at+1:]...))
	}
}
