package desk

import (
	"fmt"
	"slices"
	"strings"
	"testing"

	"lighterage/api"
)

func TestNoLines(t *testing.T) {
	for _, lines := range [][]string{nil, {}, make([]string, 0, 9), {""}, {"", "", ""}, make([]string, api.MaxLines)} {
		does(t, New(), lines)
		d := busyDesk(t)
		was := state(d)
		does(t, d, lines)
		if now := state(d); now != was {
			t.Errorf("%d empty lines: %s, was %s", len(lines), quote(now), quote(was))
		}
	}
}

func TestHowManyLines(t *testing.T) {
	for _, n := range []int{1, 2, 299, 300} {
		does(t, New(), slices.Repeat([]string{"log"}, n), slices.Repeat([]string{"log 0 0"}, n)...)
		does(t, New(), slices.Repeat([]string{"", "x"}, n)[:n], slices.Repeat([]string{"what"}, n/2)...)
		// Each of them is done.
		d := New()
		tells(t, d, in(0, create(length(n))+patch(1, 0, n, "")), created(1))
		does(t, d, slices.Repeat([]string{in(0, "a")}, n), append(slices.Repeat([]string{"ok"}, n-1), offsetAt(n))...)
		tells(t, d, "send 1", up(1, "", n, strings.Repeat("a", n)))
	}
	for _, n := range []int{301, 302, 600, 1 << 20} {
		for _, line := range []string{"", "log", "what", "send 3", "crash 0", "a\nb", "\n"} {
			fails(t, busyDesk(t), slices.Repeat([]string{line}, n), api.ErrMany, -1)
		}
		// A newline in one of too many lines is not asked for.
		for _, at := range []int{0, 1, 299, 300, n - 1} {
			lines := make([]string, n)
			lines[at] = "lo\ng"
			fails(t, New(), lines, api.ErrMany, -1)
		}
	}
}

// A newline in a line: the first one that has one is told, and nothing is done.
func TestNewlineInALine(t *testing.T) {
	good := []string{in(0, create(length(0))), "send 3", "told 1", "crash 0", "drop 1", "list", "log", "", "what", in(0, get)}
	bad := []string{"\n", "\n\n", "a\nb", "list\n", "\nlist", "log\n", "\r\n", "send 3\n", "bytes 0 \n", "bytes 0 a\nb", "bytes 0 \\\n", "what\n", "x\ny", " \n"}
	for _, line := range bad {
		fails(t, New(), []string{line}, api.ErrLine, 0)
		for at := range len(good) + 1 {
			lines := slices.Insert(slices.Clone(good), at, line)
			fails(t, busyDesk(t), lines, api.ErrLine, at)
			fails(t, busyDesk(t), append(lines, "\n", line), api.ErrLine, at)
		}
	}
	for _, n := range []int{2, 299, 300} {
		for _, at := range []int{0, 1, n - 1} {
			lines := slices.Repeat([]string{"send 3"}, n)
			lines[at] = "\n"
			fails(t, busyDesk(t), lines, api.ErrLine, at)
		}
	}
	// It is a LF alone that is one.
	for _, line := range []string{"\r", "a\rb", "list\r", "\x0b", "\x0c", "\u0085", "\u2028", `\n`, `a\nb`} {
		leaves(t, busyDesk(t), line, "what")
	}
	tells(t, New(), `bytes 0 \n\x0a`, out("400 Bad Request", "", ""))
}

// A fault leaves a desk as one that is asked on.
func TestBehindAFault(t *testing.T) {
	d := New()
	tells(t, d, in(0, create(length(1))+"PAT"), created(1))
	fails(t, d, []string{in(0, "CH"), "x\n"}, api.ErrLine, 1)
	fails(t, d, make([]string, 301), api.ErrMany, -1)
	does(t, d, []string{in(0, strings.TrimPrefix(patch(1, 0, 1, "a"), "PAT")), "send 1"}, offsetAt(1), up(1, "", 1, "a"))
}

// Lines that are none of those that a desk knows.
func TestWhat(t *testing.T) {
	lines := []string{
		// Blanks.
		" ", "  ", "\t", " list", "list ", " log", "log ", "  list", " send 3", " bytes 0 x", "send  3", "send 3 ", "send 3  ", "drop  0", "drop 0 ", "told 1 ", "told  1", "crash 0 ", "crash  0", "bytes  0 x", "bytes  0  x", "send\t3", "bytes\t0 x", "bytes 0\tx", "send \t3", "send 3\t", "send3", "bytes0 x", "bytes 0x", "bytes\u00a00 x",
		// Words.
		"x", "what", "ok", "up", "out", "no", "end", "upload", "upload 1 0 0 0 ", "byte 0 x", "bytess 0 x", "b 0 x", "drops 0", "dro 0", "sends 3", "sen 3", "telling 1", "tol 1", "crashes 0", "cras 0", "lists", "lis", "listing", "logs", "lo", "l", "get 1", "trail", "0", "3 send", `\x6cist`, "list\x00", "\x00", "\xff", "é", "send 3\x00", some(100000),
		// Capitals.
		"LIST", "List", "lisT", "LOG", "Log", "BYTES 0 x", "Bytes 0 x", "DROP 0", "Drop 0", "SEND 3", "Send 3", "TOLD 1", "Told 1", "CRASH 0", "Crash 0",
		// A word too many.
		"list 1", "list list", "list all", "log 1", "log log", "drop 0 0", "drop 0 x", "send 3 3", "send 3 x", "told 1 1", "told 1 x", "crash 0 0", "crash 0 x", "drop 0  ", "list  ", "log  ",
		// Words that stand in one line.
		"list,log", "list;log", "list\rlog", "list log", "send 3,1", "send 1-3",
	}
	for _, line := range lines {
		leaves(t, busyDesk(t), line, "what")
	}
	// Each tells what, and the others are done all the same.
	does(t, New(), []string{"x", "log", " ", "", "list", "x "}, "what", "log 0 0", "what", "end", "what")
}

// noNumbers: texts that are none, as they are not as short as can be, too long, or have
// bytes that are no digits.
func noNumbers() []string {
	l := []string{"", "00", "01", "03", "000", "000000000", "000000003", "010", "0000000000", "0000000003", "+0", "+1", "+3", "-0", "-1", "-3", "1000000000", "9999999999", "4294967296", "9223372036854775807", "18446744073709551616", "18446744073709551619",
		"x", "3x", "x3", "0x3", "3.", "3.0", ".3", "3e0", "3_0", "1_000", "1,000", "0b1", "0o3", "a", "f", "A", "3\r", "3\x00", "\x003", "\u0663", "\xff", `\x33`, `3\`, "'3'", `"3"`, "3-", "--3", "N", "K"}
	for c := range 256 {
		if c != '\n' && (c < '0' || c > '9') && c != ' ' {
			l = append(l, "3"+string([]byte{byte(c)}), string([]byte{byte(c)})+"3", string([]byte{'1', byte(c), '3'}), string([]byte{byte(c)}))
		}
	}
	return l
}

func TestNoNumbers(t *testing.T) {
	d := busyDesk(t)
	for _, word := range []string{"drop", "send", "told", "crash"} {
		leaves(t, d, word, "what")
		for _, n := range noNumbers() {
			leaves(t, d, word+" "+n, "what")
		}
	}
	for _, line := range []string{"bytes", "bytes ", "bytes x", "bytes 0", "bytes 3", "bytes 4", "bytes 999999999"} {
		leaves(t, d, line, "what")
	}
	for _, n := range noNumbers() {
		leaves(t, d, "bytes "+n, "what")
		leaves(t, d, "bytes "+n+" ", "what")
		leaves(t, d, "bytes "+n+" GET", "what")
	}
}

// Numbers that are some: what they come to tells which ones they are.
func TestNumbers(t *testing.T) {
	d := New()
	for n := range 120 {
		code := api.ErrNone
		for _, word := range []string{"send", "told"} {
			leaves(t, d, fmt.Sprint(word, " ", n), no(code))
		}
		if n >= api.MaxConns {
			leaves(t, d, fmt.Sprint("drop ", n), no(api.ErrRange))
			leaves(t, d, fmt.Sprint("bytes ", n, " x"), no(api.ErrRange))
		}
	}
	for d.Next() < 105 {
		id, _ := d.Create(0, "")
		if id != 9 && id != 10 && id != 100 {
			d.Drop(id)
		}
	}
	does(t, d, []string{"send 100", "send 10", "told 10", "send 9", "told 9", "list"}, up(100, "", 0, ""), up(10, "", 0, ""), "ok", up(9, "", 0, ""), "ok",
		"upload 9 0 0 2 ", "upload 10 0 0 2 ", "upload 100 0 0 1 ", "end")
	for _, n := range []string{"99999999", "100000000", "123456789", "999999999"} {
		does(t, d, []string{"send " + n, "told " + n, "drop " + n, "bytes " + n + " x", "crash " + n}, no(api.ErrNone), no(api.ErrNone), no(api.ErrRange), no(api.ErrRange), "ok")
	}
	// How many bytes a crash keeps.
	for keep := range 12 {
		d := New()
		d.Create(9, "")
		d.Append(1, 0, []byte("ab"))
		left := 0
		switch {
		case keep >= 10:
			left = 10
		case keep >= 4:
			left = 4
		}
		does(t, d, []string{fmt.Sprint("crash ", keep), "log"}, "ok", fmt.Sprintf("log %d %d", left, left))
	}
}

// The text of bytes stands behind the second blank, whatever it is.
func TestTextOfBytes(t *testing.T) {
	d := New()
	for k := range api.MaxConns {
		leaves(t, d, in(k, ""), "ok")
	}
	leaves(t, d, in(api.MaxConns, ""), no(api.ErrRange))
	// Blanks of a text are its own: as lines of requests they are refused, and as
	// bytes of an upload they stay.
	for _, text := range []string{" ", "  ", "   ", " x", "x ", " x ", "x y", "  x  y  ", "0", "0 x", "1 2 3", "bytes 0 x", "list", "send 1"} {
		d := New()
		does(t, d, []string{in(0, create(length(len(text)))), in(0, patch(1, 0, len(text), "")), in(0, text), "send 1"},
			created(1), "ok", offsetAt(len(text)), up(1, "", len(text), text))
		tells(t, New(), in(1, text+`\r\n`), out("400 Bad Request", "", ""))
	}
	// A text that is none leaves the line none of those that are known, whatever
	// the connection is.
	for _, text := range []string{`\`, `\q`, `\x`, `\x4`, `\x4g`, `\X41`, `\R`, `a\`, `GET \`, `\ `, `\0`, `\\\`, `\x 41`, `x\x`, `ab\xyz`} {
		for _, k := range []int{0, 1, 3, 4, 999999999} {
			leaves(t, busyDesk(t), in(k, text), "what")
		}
	}
	// Bytes that need no backslash stand themselves, or with one.
	d = New()
	does(t, d, []string{in(0, create(length(6))), in(0, patch(1, 0, 6, "a\tb\x00\xff\x7f")), "send 1"}, created(1), offsetAt(6), up(1, "", 6, `a\x09b\x00\xff\x7f`))
	tells(t, d, `bytes 1 \x47ET\x20/ HTTP/1.1`+"\r"+`\nHost:`+"\t"+`a\x0D\x0a\x0d\n`, out("404 Not Found", "", ""))
}

// What is handed in stays as it is, and what stands behind a list's length is
// none of it.
func TestLinesThatAreHandedIn(t *testing.T) {
	all := []string{in(0, create(length(0))), "list", "x\n", "\n"}
	all = append(all, make([]string, 400)...)
	was := slices.Clone(all)
	d := New()
	does(t, d, all[:2], created(1), "upload 1 0 0 0 ", "end")
	fails(t, d, all[:3], api.ErrLine, 2)
	fails(t, d, all, api.ErrMany, -1)
	if !slices.Equal(all, was) {
		t.Errorf("the lines became %q", all[:5])
	}
	// The lines are not kept.
	lines := []string{in(0, "GET / HT"), "log"}
	does(t, d, lines, "ok", "log 4 4")
	lines[0], lines[1] = in(0, "x"), "list"
	does(t, d, []string{in(0, `TP/1.1\r\nHost: a\r\n\r\n`)}, out("404 Not Found", "", ""))
}
