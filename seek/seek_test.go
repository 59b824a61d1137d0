package seek

import (
	"bytes"
	"strings"
	"testing"
)

// told: what a Seek answered to each byte, in brackets, with ! for a mark.
func told(s *Seek, in string) string {
	var b strings.Builder
	for i := range len(in) {
		out, found := s.Feed(in[i])
		b.WriteString("[" + string(out))
		if found {
			b.WriteString("!")
		}
		b.WriteString("]")
	}
	return b.String()
}

// check feeds a new Seek, and asks what it told and what it holds.
func check(t *testing.T, mark, in, want, held string) {
	t.Helper()
	s := New([]byte(mark))
	if got := told(s, in); got != want {
		t.Errorf("mark %q, fed %q: %s, want %s", mark, in, got, want)
	}
	checkHeld(t, s, held)
}

// checkHeld asks Fits ahead of Rest and behind it.
func checkHeld(t *testing.T, s *Seek, held string) {
	t.Helper()
	if got := s.Fits(); got != len(held) {
		t.Errorf("Fits: %d, want %d", got, len(held))
	}
	if got := s.Rest(); string(got) != held {
		t.Errorf("Rest: %q, want %q", got, held)
	}
	if got := s.Fits(); got != 0 {
		t.Errorf("Fits behind Rest: %d, want 0", got)
	}
	if got := s.Rest(); len(got) != 0 {
		t.Errorf("Rest behind Rest: %q, want nothing", got)
	}
}

func TestNothingCame(t *testing.T) {
	for _, mark := range []string{"", "x", "xx", "\r\n--b"} {
		check(t, mark, "", "", "")
	}
}

func TestOrdinaryMarks(t *testing.T) {
	check(t, "abc", "xyz", "[x][y][z]", "")
	check(t, "abc", "abc", "[][][!]", "")
	check(t, "abc", "xabcy", "[x][][][!][y]", "")
	check(t, "abc", "ab", "[][]", "ab")
	check(t, "abc", "abx", "[][][abx]", "")
	check(t, "abc", "abab", "[][][ab][]", "ab")
	check(t, "\r\n--b", "a\r\n-\r\n--bc", "[a][][][][\r\n-][][][][!][c]", "")
	check(t, "\x00\xff", "\x00\x00\xff\xff", "[][\x00][!][\xff]", "")
	check(t, "\n", "é\n", "[\xc3][\xa9][!]", "")
}

func TestMarkWithoutBytes(t *testing.T) {
	check(t, "", "xy\x00x", "[x][y][\x00][x]", "")
	for _, s := range []*Seek{New(nil), New([]byte{}), New(make([]byte, 0, 8))} {
		for c := range 256 {
			out, found := s.Feed(byte(c))
			if !bytes.Equal(out, []byte{byte(c)}) || found {
				t.Errorf("no mark, fed %d: %q, %v", c, out, found)
			}
			checkHeld(t, s, "")
		}
	}
}

func TestMarkOfOneByte(t *testing.T) {
	check(t, "x", "axxb", "[a][!][!][b]", "")
	for mark := range 256 {
		s := New([]byte{byte(mark)})
		for c := range 256 {
			out, found := s.Feed(byte(c))
			want := []byte{byte(c)}
			if c == mark {
				want = nil
			}
			if !bytes.Equal(out, want) || found != (c == mark) {
				t.Errorf("mark %d, fed %d: %q, %v", mark, c, out, found)
			}
			if s.Fits() != 0 {
				t.Errorf("mark %d, fed %d: %d are held", mark, c, s.Fits())
			}
		}
	}
}

func TestMarkOfBytesThatAreAllTheSame(t *testing.T) {
	check(t, "aa", "aaa", "[][!][]", "a")
	check(t, "aa", "aaaa", "[][!][][!]", "")
	check(t, "aaa", "aabaaa", "[][][aab][][][!]", "")
	check(t, "aaa", "aaaaa", "[][][!][][]", "aa")
}

func TestMarkWhoseEndBeginsIt(t *testing.T) {
	check(t, "aba", "ababa", "[][][!][b][]", "a")
	check(t, "abab", "ababab", "[][][][!][][]", "ab")
	check(t, "abcab", "abcabcab", "[][][][][!][c][][]", "ab")
}

func TestMarksOneBehindTheOther(t *testing.T) {
	check(t, "ab", "abab", "[][!][][!]", "")
	check(t, "aba", "abaaba", "[][][!][][][!]", "")
	check(t, "aab", "aabxaab", "[][][!][x][][][!]", "")
}

// What came ahead of a mark's end is not read again behind it.
func TestNoByteIsSharedByTwoMarks(t *testing.T) {
	check(t, "aba", "abababa", "[][][!][b][][][!]", "")
	check(t, "aa", "aaab", "[][!][][ab]", "")
	check(t, "abcab", "abcabcabcab", "[][][][][!][c][][][][][!]", "")
}

// A byte that ends no mark, and with which an end of what came begins it.
func TestLongestEndIsHeld(t *testing.T) {
	check(t, "aab", "aaab", "[][][a][!]", "")
	check(t, "aab", "aaaa", "[][][a][a]", "aa")
	check(t, "abac", "abab", "[][][][ab]", "ab")
	check(t, "abac", "ababac", "[][][][ab][][!]", "")
	check(t, "aabaaac", "aabaaab", "[][][][][][][aaba]", "aab")
	check(t, "aabaac", "aabaab", "[][][][][][aab]", "aab")
	check(t, "aabaac", "aabaaaa", "[][][][][][aaba][a]", "aa")
	check(t, "abcabd", "abcabcabd", "[][][][][][abc][][][!]", "")
	check(t, "abacabad", "abacabacabad", "[][][][][][][][abac][][][][!]", "")
	check(t, "abacabad", "abacabab", "[][][][][][][][abacab]", "ab")
	check(t, "ab", "aab", "[][a][!]", "")
	check(t, "\r\n-", "\r\r\n\r\n-", "[][\r][][\r\n][][!]", "")
}

func TestRestLooksAnew(t *testing.T) {
	s := New([]byte("aab"))
	checkHeld(t, s, "")
	if got := told(s, "xaa"); got != "[x][][]" {
		t.Errorf("fed xaa: %s", got)
	}
	checkHeld(t, s, "aa")
	if got := told(s, "b"); got != "[b]" {
		t.Errorf("fed b behind Rest: %s", got)
	}
	checkHeld(t, s, "")
	if got := told(s, "aab"); got != "[][][!]" {
		t.Errorf("fed aab behind Rest: %s", got)
	}
	checkHeld(t, s, "")
	if got := told(s, "a"); got != "[]" {
		t.Errorf("fed a behind a mark and Rest: %s", got)
	}
	checkHeld(t, s, "a")
	if got := told(s, "aab"); got != "[][][!]" {
		t.Errorf("fed aab behind a Rest that answered a: %s", got)
	}
}

func TestFitsBehindEachByte(t *testing.T) {
	s := New([]byte("aab"))
	for i, want := range []int{1, 2, 2, 0, 0, 1, 0, 1, 2} {
		if out, _ := s.Feed("aaabbabaa"[i]); s.Fits() != want {
			t.Errorf("Fits behind byte %d, with %q answered: %d, want %d", i, out, s.Fits(), want)
		}
		if again := s.Fits(); again != want {
			t.Errorf("Fits asked twice behind byte %d: %d, want %d", i, again, want)
		}
	}
}

// plain is the chapter's words, one by one: it keeps all that came since the
// last mark, and of that what was answered.
type plain struct {
	mark, came string
	gone       int
}

func (p *plain) held() int {
	for n := min(len(p.mark)-1, len(p.came)); n > 0; n-- {
		if strings.HasSuffix(p.came, p.mark[:n]) {
			return n
		}
	}
	return 0
}

func (p *plain) feed(c byte) (string, bool) {
	p.came += string([]byte{c})
	if p.mark != "" && strings.HasSuffix(p.came, p.mark) {
		p.came, p.gone = "", 0
		return "", true
	}
	from := p.gone
	p.gone = len(p.came) - p.held()
	return p.came[from:p.gone], false
}

func (p *plain) rest() string {
	rest := p.came[p.gone:]
	p.came, p.gone = "", 0
	return rest
}

// texts: all of at most most letters.
func texts(letters string, most int) []string {
	l := []string{""}
	for from, n := 0, 0; n < most; n++ {
		to := len(l)
		for _, s := range l[from:to] {
			for i := range len(letters) {
				l = append(l, s+letters[i:i+1])
			}
		}
		from = to
	}
	return l
}

// compare feeds one text to both, and asks for the rest ahead of the byte at.
func compare(t *testing.T, mark, in string, at int) {
	t.Helper()
	s, p := New([]byte(mark)), &plain{mark: mark}
	for i := range len(in) {
		if i == at {
			if got, want := string(s.Rest()), p.rest(); got != want {
				t.Fatalf("mark %q, Rest behind %q: %q, want %q", mark, in[:i], got, want)
			}
		}
		out, found := s.Feed(in[i])
		want, wantFound := p.feed(in[i])
		if string(out) != want || found != wantFound || s.Fits() != p.held() {
			t.Fatalf("mark %q, fed %q with Rest at %d: %q, %v, holds %d, want %q, %v, %d",
				mark, in[:i+1], at, out, found, s.Fits(), want, wantFound, p.held())
		}
	}
	if got, want := string(s.Rest()), p.rest(); got != want {
		t.Fatalf("mark %q, Rest behind %q: %q, want %q", mark, in, got, want)
	}
}

func TestAllShortMarksAndTexts(t *testing.T) {
	for _, mark := range texts("ab", 6) {
		for _, in := range texts("ab", 9) {
			compare(t, mark, in, -1)
		}
		for _, in := range texts("ab", 6) {
			for at := range len(in) {
				compare(t, mark, in, at)
			}
		}
	}
	for _, mark := range texts("abc", 4) {
		for _, in := range texts("abc", 6) {
			compare(t, mark, in, -1)
		}
	}
}

// Ends of ends: marks in which going back goes by several steps.
func TestMarksMadeOfThemselves(t *testing.T) {
	mark := "a"
	for _, c := range "bcde" {
		mark += string(c) + mark
		for n := range len(mark) {
			for _, end := range []string{"a", "b", "c", "d", "e", "f"} {
				compare(t, mark, mark[:n]+end+mark, -1)
			}
		}
		compare(t, mark, strings.Repeat(mark, 5), 3*len(mark)/2)
	}
	old, word := "a", "ab"
	for range 6 {
		old, word = word, word+old
		compare(t, word, strings.Repeat(word[:len(word)-1], 3)+strings.Repeat(word, 3), len(word)+3)
	}
}

// What is answered, with the marks that were found, and what is held, is what
// came; and the marks are those that strings.Split finds, too.
func TestWhatIsAnsweredIsWhatCame(t *testing.T) {
	for _, mark := range texts("ab", 4)[1:] {
		for _, in := range texts("ab", 8) {
			s := New([]byte(mark))
			pieces := []string{""}
			for i := range len(in) {
				out, found := s.Feed(in[i])
				pieces[len(pieces)-1] += string(out)
				if found {
					pieces = append(pieces, "")
				}
			}
			pieces[len(pieces)-1] += string(s.Rest())
			if got := strings.Join(pieces, mark); got != in {
				t.Errorf("mark %q, fed %q: %q came back", mark, in, got)
			}
			if got, want := strings.Join(pieces, "|"), strings.Join(strings.Split(in, mark), "|"); got != want {
				t.Errorf("mark %q, fed %q: %q, want %q", mark, in, got, want)
			}
		}
	}
}

func TestMarkIsNeitherKeptNorChanged(t *testing.T) {
	memory := []byte("..aab..")
	mark := memory[2:5]
	s := New(mark)
	if got := told(s, "xaa"); got != "[x][][]" {
		t.Errorf("fed xaa: %s", got)
	}
	if string(memory) != "..aab.." {
		t.Errorf("the mark's memory was changed: %q", memory)
	}
	copy(memory, "xxxxxxx")
	if got := told(s, "ab.aab"); got != "[a][!][.][][][!]" {
		t.Errorf("the mark was changed behind New: %s", got)
	}
	if string(memory) != "xxxxxxx" {
		t.Errorf("the mark's memory was changed behind New: %q", memory)
	}
}

func TestBehindTheMarksLengthNothingIsRead(t *testing.T) {
	s := New([]byte("abab")[:2])
	if got := told(s, "abab"); got != "[][!][][!]" {
		t.Errorf("fed abab: %s", got)
	}
}

// spoil writes over all that a list's memory holds, behind its length, too.
func spoil(b []byte) {
	b = b[:cap(b)]
	for i := range b {
		b[i] = '#'
	}
}

func TestAnswersAreNewMemory(t *testing.T) {
	for _, mark := range []string{"", "a", "aab", "aabaac", "abacabad"} {
		for _, in := range []string{"aaabxaab", "aabaabaacx", "abacabacabadabacabab", "xaabaa"} {
			s, p := New([]byte(mark)), &plain{mark: mark}
			for i := range len(in) {
				out, found := s.Feed(in[i])
				want, wantFound := p.feed(in[i])
				if string(out) != want || found != wantFound {
					t.Errorf("mark %q, fed %q: %q, %v, want %q, %v", mark, in[:i+1], out, found, want, wantFound)
				}
				spoil(out)
				if i%5 == 4 {
					rest := s.Rest()
					if want := p.rest(); string(rest) != want {
						t.Errorf("mark %q, Rest behind %q: %q, want %q", mark, in[:i+1], rest, want)
					}
					spoil(rest)
				}
			}
		}
	}
}

func TestAnswersStayAsTheyWere(t *testing.T) {
	s := New([]byte("aab"))
	told(s, "a")
	first, _ := s.Feed('x')
	told(s, "aa")
	rest := s.Rest()
	told(s, "aaabyaay")
	s.Rest()
	if string(first) != "ax" || string(rest) != "aa" {
		t.Errorf("what was answered was changed: %q, %q", first, rest)
	}
}

func TestTwoSeeksAreApart(t *testing.T) {
	mark := []byte("ab")
	one, two := New(mark), New(mark)
	told(one, "a")
	if got := told(two, "b"); got != "[b]" || two.Fits() != 0 || one.Fits() != 1 {
		t.Errorf("the second: %s, holds %d, and the first %d", got, two.Fits(), one.Fits())
	}
}

// P1: were what came read anew with each byte, this would not end in time.
func TestLongMarkInALongStream(t *testing.T) {
	const n = 1 << 20
	mark := append(bytes.Repeat([]byte{'a'}, n), 'b')
	s := New(mark)
	gone := 0
	for range 3 * n {
		out, found := s.Feed('a')
		if gone += len(out); found {
			t.Fatal("a mark was found that is none")
		}
	}
	if gone != 2*n || s.Fits() != n {
		t.Errorf("%d bytes were answered and %d are held, want %d and %d", gone, s.Fits(), 2*n, n)
	}
	if out, found := s.Feed('b'); !found || len(out) != 0 || s.Fits() != 0 {
		t.Errorf("the mark's end: %d bytes, %v, holds %d", len(out), found, s.Fits())
	}
}
