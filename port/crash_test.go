package port

import (
	"fmt"
	"math"
	"testing"

	"lighterage/api"
)

// unsure: a port with one upload, begun to be sent on, that is made sure of, and
// one of which nothing is: its three steps are entries of 4, 6 and 5 bytes.
func unsure(t *testing.T) *Port {
	t.Helper()
	p := New()
	says(t, p, in(0, form(file("a", "b"))), answers(told("201 Created", "1 a\n")))
	says(t, p, send(1), goes(1, "filename a", "b"))
	p.Create(-1, "")
	p.Append(2, 0, []byte("cd"))
	p.Append(2, 2, []byte("e"))
	sure(t, p, 23, 38)
	return p
}

// Of what is not made sure of as much is left as the step says, as far as
// entries are whole.
func TestCrashKeepsSoMuch(t *testing.T) {
	left := func(keep int) (int, []string) {
		one := "1 1 1 filename a: b"
		switch {
		case keep < 4:
			return 23, []string{one}
		case keep < 10:
			return 27, []string{one, "2 -1 0 : "}
		case keep < 15:
			return 33, []string{one, "2 -1 0 : cd"}
		}
		return 38, []string{one, "2 -1 0 : cde"}
	}
	ends := append([]int{38, 39, 100000, 100001, math.MaxInt - 37, math.MaxInt - 38}, others...)
	for keep := -20; keep < 30; keep++ {
		ends = append(ends, keep)
	}
	for _, keep := range ends {
		p := unsure(t)
		for k := range api.MaxConns {
			says(t, p, in(k, "GET / "), Out{})
		}
		says(t, p, crash(keep), Out{})
		n, uploads := left(keep)
		sure(t, p, n, n)
		holds(t, p, uploads...)
		for k := range api.MaxConns {
			if p.Busy(k) {
				t.Errorf("Crash of %d: the connection %d is not a new one", keep, k)
			}
		}
		leaves(t, p, send(1), fails(api.ErrSent))
		trails(t, p, 1)
	}
}

// To crash again changes nothing, however much is kept.
func TestCrashBehindACrash(t *testing.T) {
	ends := append([]int{0, 1, 3, 4, 5, 9, 10, 14, 15, 16, 39, 100}, others...)
	for _, first := range ends {
		p := unsure(t)
		says(t, p, crash(first), Out{})
		for _, again := range ends {
			leaves(t, p, crash(again), Out{})
		}
		says(t, p, in(2, "GET"), Out{})
		says(t, p, crash(0), Out{})
		leaves(t, p, crash(1), Out{})
		trails(t, p, 1)
	}
	p := New()
	for _, keep := range ends {
		leaves(t, p, crash(keep), Out{})
	}
}

// What is lost with a crash never was: its number is given again, and it is sent
// on once all the same.
func TestANumberThatWasLost(t *testing.T) {
	p := New()
	p.Create(1, "lost")
	p.Append(1, 0, []byte("x"))
	says(t, p, crash(0), Out{})
	leaves(t, p, send(1), fails(api.ErrNone))
	leaves(t, p, taken(1), fails(api.ErrNone))
	trails(t, p)
	says(t, p, in(0, form(file("a", "y"))), answers(told("201 Created", "1 a\n")))
	does(t, p, send(1), goes(1, "filename a", "y"), begun(1))
	says(t, p, crash(0), Out{})
	leaves(t, p, send(1), fails(api.ErrSent))
	trails(t, p, 1)
	// Nor is the number of one given again that was begun, and is gone.
	says(t, p, in(0, other("DELETE", 1)), answers(tusTold("204 No Content")))
	for range 2 {
		says(t, p, crash(0), Out{})
		leaves(t, p, send(1), fails(api.ErrNone))
	}
	says(t, p, in(0, form(file("b", "z"))), answers(told("201 Created", "2 b\n")))
	does(t, p, send(2), goes(2, "filename b", "z"), begun(2))
	trails(t, p, 1, 2)
}

// A crash behind SSend and ahead of STold, and again behind it: the upload is
// sent on once.
func TestCrashAroundSending(t *testing.T) {
	for _, keep := range []int{-1, 0, 1, 4, 1000} {
		p := New()
		says(t, p, in(0, create("Upload-Length: 2", "Upload-Metadata: m")+patch(1, 0, "hi")), answers(createdAt(1)+offsetAt(2)))
		leaves(t, p, crash(keep), Out{})
		does(t, p, send(1), goes(1, "m", "hi"), begun(1))
		for range 2 {
			leaves(t, p, crash(keep), Out{})
			holds(t, p, "1 2 1 m: hi")
			leaves(t, p, send(1), fails(api.ErrSent))
			trails(t, p, 1)
		}
		does(t, p, taken(1), Out{}, ended(1))
		for range 2 {
			leaves(t, p, crash(keep), Out{})
			holds(t, p, "1 2 2 m: hi")
			leaves(t, p, taken(1), fails(api.ErrSent))
			leaves(t, p, send(1), fails(api.ErrSent))
			trails(t, p, 1)
		}
	}
}

// What can't be told for want of room stays begun, behind a crash, too.
func TestCrashOfAFullLog(t *testing.T) {
	p, id := tight(t, 6)
	does(t, p, send(id), goes(id, "m", "hi"), begun(id))
	for _, keep := range []int{0, 2, 100000} {
		leaves(t, p, taken(id), fails(api.ErrFull))
		leaves(t, p, crash(keep), Out{})
		leaves(t, p, send(id), fails(api.ErrSent))
		trails(t, p, id)
	}
}

// A crash in the midst of a piece, at each of its bytes, on each connection:
// nothing of it is left, and the connection knows nothing of it.
func TestCrashInAPiece(t *testing.T) {
	text := patch(1, 2, "cdefghi")
	for n := range len(text) {
		for k := range api.MaxConns {
			p := New()
			says(t, p, in(0, create("Upload-Length: 9")+patch(1, 0, "ab")), answers(createdAt(1)+offsetAt(2)))
			was := state(p)
			says(t, p, in(k, text[:n]), Out{})
			says(t, p, crash(n-30), Out{})
			if now := state(p); now != was {
				t.Fatalf("%s and a crash: %s, was %s", quote(text[:n]), quote(now), quote(was))
			}
			// As there is no piece any more, none is done when the connection is
			// gone.
			leaves(t, p, gone(k), Out{})
			leaves(t, p, in(k, other("HEAD", 1)), answers(has(2, 9)))
			leaves(t, p, send(1), fails(api.ErrShort))
			does(t, p, in(k, text), answers(offsetAt(9)), "\x0b\x03\x02\x01cdefghi")
		}
	}
}

// What comes behind a crash on a connection is read from a beginning.
func TestRestBehindACrash(t *testing.T) {
	texts := []string{ask("GET", "/", "body"), create("Upload-Length: 1"), patch(1, 0, "abc"), form(file("a", "b"))}
	for _, text := range texts {
		for k := range api.MaxConns {
			p := New()
			says(t, p, in(k, text[:len(text)-1]), Out{})
			says(t, p, crash(0), Out{})
			says(t, p, in(k, "x"), Out{})
			if !p.Busy(k) {
				t.Errorf("%s: the connection %d is not busy", quote(text), k)
			}
			leaves(t, p, in((k+1)%4, "\r\n"), Out{})
			says(t, p, in(k, "\r\n"), answers(told("400 Bad Request", "")))
			leaves(t, p, in(k, text), fails(api.ErrDone))
			leaves(t, p, in((k+1)%4, ask("GET", "/", "")), answers(told("404 Not Found", "")))
			holds(t, p)
			// One that failed is a new one behind a crash, too.
			says(t, p, crash(7), Out{})
			leaves(t, p, in(k, ask("GET", "/", "")), answers(told("404 Not Found", "")))
		}
	}
}

// The rest of a request brings behind a crash what it brings on a new port.
func TestRestBehindACrashAtEachPlace(t *testing.T) {
	for _, text := range []string{ask("GET", "/", "body"), create("Upload-Length: 1"), patch(1, 0, "abc"), form(file("a", "b"))} {
		for n := range len(text) {
			for k := range api.MaxConns {
				p, fresh := New(), New()
				says(t, p, in(k, text[:n]), Out{})
				says(t, p, crash(0), Out{})
				says(t, p, in(k, text[n:]), fresh.Do(in(k, text[n:])))
				if now, want := state(p), state(fresh); now != want {
					t.Fatalf("%s behind a crash: %s, want %s", quote(text[n:]), quote(now), quote(want))
				}
			}
		}
	}
}

// All connections are gone with one crash.
func TestCrashOfAllConnections(t *testing.T) {
	p := New()
	says(t, p, in(0, create("Upload-Length: 9")), answers(createdAt(1)))
	was := state(p)
	says(t, p, in(0, begunPiece(1, 0, "abc")), Out{})
	says(t, p, in(1, "POST /form HTTP/1.1\r\n"), Out{})
	says(t, p, in(2, "\n"), answers(told("400 Bad Request", "")))
	says(t, p, in(3, "\r"), Out{})
	says(t, p, crash(0), Out{})
	if now := state(p); now != was {
		t.Errorf("a crash: %s, was %s", quote(now), quote(was))
	}
	for k := range api.MaxConns {
		leaves(t, p, in(k, other("HEAD", 1)), answers(has(0, 9)))
	}
}

// begunPiece: a piece of which those bytes came, and three more are to come.
func begunPiece(id, offset int, came string) string {
	text := patch(id, offset, came+"...")
	return text[:len(text)-3]
}

// What was told in a reply stays, by whatever way the bytes came.
func TestWhatWasAnsweredStays(t *testing.T) {
	for _, keep := range []int{math.MinInt, -1, 0, 5, math.MaxInt} {
		p := New()
		says(t, p, in(0, create("Upload-Length: 9")), answers(createdAt(1)))
		says(t, p, in(0, patch(1, 0, "ab")), answers(offsetAt(2)))
		leaves(t, p, crash(keep), Out{})
		says(t, p, in(3, other("HEAD", 1)), answers(has(2, 9)))
		says(t, p, in(0, patch(1, 2, "cde")+begunPiece(1, 5, "lost")), answers(offsetAt(5)))
		says(t, p, crash(keep), Out{})
		holds(t, p, "1 9 0 : abcde")
		says(t, p, in(0, other("HEAD", 1)), answers(has(5, 9)))
		says(t, p, in(1, form(file("a", "bytes"), file("b", ""))), answers(told("201 Created", "2 a\n3 b\n")))
		says(t, p, in(2, create("Upload-Defer-Length: 1")+patch(4, 0, "abc", "Upload-Length: 3")), answers(createdAt(4)+offsetAt(3)))
		leaves(t, p, crash(keep), Out{})
		holds(t, p, "1 9 0 : abcde", "2 5 0 filename a: bytes", "3 0 0 filename b: ", "4 3 0 : abc")
		// Till it is dropped: then it does not come back, either.
		says(t, p, in(2, other("DELETE", 4)), answers(tusTold("204 No Content")))
		leaves(t, p, crash(keep), Out{})
		holds(t, p, "1 9 0 : abcde", "2 5 0 filename a: bytes", "3 0 0 filename b: ")
		says(t, p, send(2), goes(2, "filename a", "bytes"))
		leaves(t, p, crash(keep), Out{})
		says(t, p, in(2, other("HEAD", 2)), answers(tusTold("200 OK", "Upload-Offset: 5", "Upload-Length: 5", "Cache-Control: no-store", "Upload-Metadata: filename a")))
	}
}

// A piece whose connection is gone, then a crash: what came of it stays.
func TestGoneThenACrash(t *testing.T) {
	for k := range api.MaxConns {
		for _, keep := range []int{-1, 0, 3, 100} {
			p := New()
			says(t, p, in(0, create("Upload-Length: 9")), answers(createdAt(1)))
			says(t, p, in(k, begunPiece(1, 0, "abc")), Out{})
			says(t, p, in((k+1)%4, begunPiece(1, 3, "lost")), Out{})
			does(t, p, gone(k), Out{}, "\x07\x03\x02\x01abc")
			says(t, p, crash(keep), Out{})
			holds(t, p, "1 9 0 : abc")
			leaves(t, p, gone(k), Out{})
			leaves(t, p, gone((k+1)%4), Out{})
			says(t, p, in(k, other("HEAD", 1)), answers(has(3, 9)))
			says(t, p, in((k+2)%4, patch(1, 3, "defghi")), answers(offsetAt(9)))
			does(t, p, send(1), goes(1, "", "abcdefghi"), begun(1))
			leaves(t, p, crash(keep), Out{})
			leaves(t, p, send(1), fails(api.ErrSent))
			trails(t, p, 1)
		}
	}
}

// A crash at each number of bytes that are kept, of a life that nobody made sure
// of: what is left is what there was at some time.
func TestCrashOfALife(t *testing.T) {
	live := func() (*Port, []string) {
		p := New()
		var was []string
		for _, step := range []func(){
			func() {}, func() { p.Create(2, "m") }, func() { p.Append(1, 0, []byte("h")) }, func() { p.Create(-1, "") }, func() { p.Append(1, 1, []byte("i")) },
			func() { p.Begin(1) }, func() { p.Declare(2, 0) }, func() { p.End(1) }, func() { p.Begin(2) }, func() { p.Drop(1) }, func() { p.End(2) },
		} {
			step()
			was = append(was, fmt.Sprint(p.List()))
		}
		return p, was
	}
	p, was := live()
	log, _ := p.Log()
	at := 0
	for keep := range len(log) + 2 {
		p, _ := live()
		says(t, p, crash(keep), Out{})
		left, n := p.Log()
		if n != len(left) || len(left) > keep || string(left) != string(log[:n]) {
			t.Errorf("of %d bytes kept %d are left, %d sure", keep, len(left), n)
		}
		if keep > 0 && at+1 < len(was) && fmt.Sprint(p.List()) == was[at+1] {
			at++
		}
		if got := fmt.Sprint(p.List()); got != was[at] {
			t.Errorf("of %d bytes kept: %s, want %s", keep, got, was[at])
		}
	}
	if at != len(was)-1 {
		t.Errorf("with all bytes kept it is the time %d of %d", at, len(was)-1)
	}
}
