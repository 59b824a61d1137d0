package port

import (
	"fmt"
	"math"
	"testing"

	"lighterage/api"
)

// An upload is created, patched to its end, sent on, told, and dropped.
func TestAnUploadInPieces(t *testing.T) {
	p := New()
	leaves(t, p, send(1), fails(api.ErrNone))
	does(t, p, in(0, create("Upload-Length: 5", "Upload-Metadata: m")), answers(createdAt(1)), "\x05\x02\x02\x06m")
	leaves(t, p, send(1), fails(api.ErrShort))
	does(t, p, in(0, patch(1, 0, "ab")), answers(offsetAt(2)), "\x06\x03\x02\x01ab")
	leaves(t, p, send(1), fails(api.ErrShort))
	leaves(t, p, taken(1), fails(api.ErrSent))
	does(t, p, in(1, patch(1, 2, "c\x00\xff")), answers(offsetAt(5)), "\x07\x03\x02\x01c\x00\xff")
	trails(t, p)
	holds(t, p, "1 5 0 m: abc\x00\xff")

	does(t, p, send(1), goes(1, "m", "abc\x00\xff"), "\x04\x06\x02\x01")
	trails(t, p, 1)
	holds(t, p, "1 5 1 m: abc\x00\xff")
	leaves(t, p, send(1), fails(api.ErrSent))
	leaves(t, p, in(0, patch(1, 5, "d")), answers(tusTold("409 Conflict")))

	does(t, p, taken(1), Out{}, "\x04\x07\x02\x01")
	trails(t, p, 1)
	holds(t, p, "1 5 2 m: abc\x00\xff")
	leaves(t, p, taken(1), fails(api.ErrSent))
	leaves(t, p, send(1), fails(api.ErrSent))

	does(t, p, in(0, other("DELETE", 1)), answers(tusTold("204 No Content")), "\x04\x05\x02\x01")
	trails(t, p, 1)
	leaves(t, p, send(1), fails(api.ErrNone))
	leaves(t, p, taken(1), fails(api.ErrNone))
}

// Files of a form are whole, and are sent on with what is told of them.
func TestFilesOfAForm(t *testing.T) {
	p := New()
	text := form(file("a.txt", "hello\r\n"), "--X\r\nContent-Disposition: form-data; name=p\r\n\r\nnone\r\n", file("../../etc/.x", ""))
	does(t, p, in(2, text), answers(told("201 Created", "1 a.txt\n2 x\n")),
		"\x12\x02\x02\x08filename a.txt", "\x0b\x03\x02\x01hello\r\n", "\x0e\x02\x03\x01filename x", "\x04\x03\x03\x01")
	does(t, p, send(2), goes(2, "filename x", ""), "\x04\x06\x03\x01")
	does(t, p, send(1), goes(1, "filename a.txt", "hello\r\n"), "\x04\x06\x02\x01")
	does(t, p, taken(2), Out{}, "\x04\x07\x03\x01")
	does(t, p, taken(1), Out{}, "\x04\x07\x02\x01")
	trails(t, p, 2, 1)
	holds(t, p, "1 7 2 filename a.txt: hello\r\n", "2 0 2 filename x: ")
}

// Several uploads in turn, of which some are still coming in.
func TestSeveralInTurn(t *testing.T) {
	p := New()
	does(t, p, in(0, create("Upload-Length: 2")+create("Upload-Defer-Length: 1")+form(file("c", "three"))+create("Upload-Length: 0")),
		answers(createdAt(1)+createdAt(2)+told("201 Created", "3 c\n")+createdAt(4)),
		"\x04\x02\x02\x03", "\x04\x02\x03\x00", "\x0e\x02\x04\x06filename c", "\x09\x03\x04\x01three", "\x04\x02\x05\x01")
	does(t, p, send(4), goes(4, "", ""), "\x04\x06\x05\x01")
	leaves(t, p, send(2), fails(api.ErrShort))
	does(t, p, in(1, patch(2, 0, "two")), answers(offsetAt(3)), "\x07\x03\x03\x01two")
	leaves(t, p, send(2), fails(api.ErrShort))
	does(t, p, send(3), goes(3, "filename c", "three"), "\x04\x06\x04\x01")
	does(t, p, taken(4), Out{}, "\x04\x07\x05\x01")
	does(t, p, in(2, patch(2, 3, "", "Upload-Length: 3")), answers(offsetAt(3)), "\x04\x03\x03\x01", "\x04\x04\x03\x04")
	does(t, p, send(2), goes(2, "", "two"), "\x04\x06\x03\x01")
	does(t, p, in(3, other("DELETE", 3)), answers(tusTold("204 No Content")), "\x04\x05\x04\x01")
	leaves(t, p, taken(3), fails(api.ErrNone))
	does(t, p, taken(2), Out{}, "\x04\x07\x03\x01")
	leaves(t, p, send(1), fails(api.ErrShort))
	does(t, p, in(3, patch(1, 0, "hi")), answers(offsetAt(2)), "\x06\x03\x02\x01hi")
	does(t, p, send(1), goes(1, "", "hi"), "\x04\x06\x02\x01")
	trails(t, p, 4, 3, 2, 1)
	holds(t, p, "1 2 1 : hi", "2 3 2 : two", "4 0 2 : ")
}

// busyPort: one with uploads of each kind, bytes that are not made sure of, and
// a request that is begun on the connection 1.
func busyPort(t *testing.T) *Port {
	t.Helper()
	p := New()
	for id := 1; id <= 3; id++ {
		whole(t, p, "m", "ab")
	}
	says(t, p, send(1), goes(1, "m", "ab"))
	says(t, p, send(2), goes(2, "m", "ab"))
	says(t, p, taken(2), Out{})
	says(t, p, in(1, "GET / HT"), Out{})
	p.Create(9, "")
	p.Append(4, 0, []byte("ab"))
	if log, sure := p.Log(); len(log)-sure != 10 {
		t.Fatalf("%d bytes are not made sure of", len(log)-sure)
	}
	return p
}

// ends of what an int can be, and numbers beside those that there are.
var others = []int{math.MinInt, math.MinInt + 1, -1 << 32, -1 << 31, -256, -2, -1, 1 << 8, 1<<8 + 1, 1 << 31, 1 << 32, 1<<32 + 1, math.MaxInt - 1, math.MaxInt}

func TestKindsThatAreNone(t *testing.T) {
	p := busyPort(t)
	for _, kind := range append([]int{-5, -4, -3, 0, 6, 7, 8, 100}, others...) {
		for _, n := range []int{-1, 0, 1, 3, 7} {
			leaves(t, p, api.Step{Kind: kind, Conn: n, N: n, Bytes: []byte(ask("GET", "/", ""))}, fails(api.ErrKind))
			leaves(t, p, api.Step{Kind: kind, Conn: n, N: n}, fails(api.ErrKind))
		}
	}
}

func TestConnectionsThatAreNone(t *testing.T) {
	p := busyPort(t)
	for _, k := range append([]int{4, 5, 6, 100}, others...) {
		for _, s := range []string{"", "x", "\n", ask("GET", "/", ""), create("Upload-Length: 1")} {
			leaves(t, p, in(k, s), fails(api.ErrRange))
		}
		leaves(t, p, gone(k), fails(api.ErrRange))
	}
	for k := range api.MaxConns {
		says(t, p, gone(k), Out{})
		says(t, p, in(k, ask("GET", "/", "")), answers(told("404 Not Found", "")))
		says(t, p, gone(k), Out{})
	}
}

// What a step has beside what its kind names does not matter.
func TestWhatAStepHasBeside(t *testing.T) {
	for _, n := range append([]int{3, 4, 1}, others...) {
		p := busyPort(t)
		leaves(t, p, api.Step{Kind: api.SBytes, Conn: 0, N: n, Bytes: []byte(ask("GET", "/", ""))}, answers(told("404 Not Found", "")))
		says(t, p, api.Step{Kind: api.SDrop, Conn: 1, N: n, Bytes: []byte("x")}, Out{})
		if p.Busy(1) {
			t.Errorf("%d: the connection is not a new one", n)
		}
		says(t, p, api.Step{Kind: api.SSend, Conn: n, N: 3, Bytes: []byte("x")}, goes(3, "m", "ab"))
		says(t, p, api.Step{Kind: api.STold, Conn: n, N: 3, Bytes: []byte("x")}, Out{})
		trails(t, p, 1, 2, 3)
		says(t, p, in(1, "GET"), Out{})
		says(t, p, api.Step{Kind: api.SCrash, Conn: n, N: 0, Bytes: []byte("x")}, Out{})
		if p.Busy(1) || len(p.List()) != 4 {
			t.Errorf("%d: a crash left %s", n, quote(state(p)))
		}
	}
}

// No bytes bring nothing, but the codes of a connection are told all the same.
func TestBytesOfNoLength(t *testing.T) {
	p := busyPort(t)
	for k := range api.MaxConns {
		leaves(t, p, api.Step{Kind: api.SBytes, Conn: k}, Out{})
		leaves(t, p, api.Step{Kind: api.SBytes, Conn: k, Bytes: []byte{}}, Out{})
	}
	says(t, p, in(1, "TP/1.1\r\nHost: a\r\n\r\n"), answers(told("404 Not Found", "")))
	leaves(t, p, in(1, "\n"), answers(told("400 Bad Request", "")))
	leaves(t, p, in(1, ""), fails(api.ErrDone))
	leaves(t, p, api.Step{Kind: api.SBytes, Conn: 1}, fails(api.ErrDone))
	leaves(t, p, in(1, ask("GET", "/", "")), fails(api.ErrDone))
	leaves(t, p, api.Step{Kind: api.SBytes, Conn: 4}, fails(api.ErrRange))
	leaves(t, p, api.Step{Kind: api.SBytes, Conn: -1, Bytes: []byte{}}, fails(api.ErrRange))
	leaves(t, p, gone(1), Out{})
	leaves(t, p, in(1, ""), Out{})
	leaves(t, p, in(1, ask("GET", "/", "")), answers(told("404 Not Found", "")))
}

// What a connection is answered is what its gate answers: one reply behind the
// other, also ahead of a failure.
func TestRepliesOfAConnection(t *testing.T) {
	p := New()
	does(t, p, in(3, ask("GET", "/", "body")+ask("PUT", "/form", "")+create("Upload-Length: 1")+ask("POST", "/form", "x", ofForm)+"x\r\n"+create("Upload-Length: 1")),
		answers(told("404 Not Found", "")+told("405 Method Not Allowed", "")+createdAt(1)+told("400 Bad Request", "")+told("400 Bad Request", "")), "\x04\x02\x02\x02")
	leaves(t, p, in(3, create("Upload-Length: 1")), fails(api.ErrDone))
	leaves(t, p, in(2, some(201)), answers(told("413 Content Too Large", "")))
	for i, c := range []byte(create("Upload-Length: 1")) {
		want := Out{}
		if i == len(create("Upload-Length: 1"))-1 {
			want = answers(createdAt(2))
		}
		says(t, p, in(1, string([]byte{c})), want)
	}
	// Neither a reply nor a connection that is gone makes sure of what it did
	// not do.
	p.Create(3, "")
	leaves(t, p, in(0, other("HEAD", 3)), answers(has(0, 3)))
	leaves(t, p, in(0, patch(3, 1, "a")), answers(tusTold("409 Conflict")))
	leaves(t, p, gone(0), Out{})
	sure(t, p, 8, 12)
}

// A connection that is gone in the midst of a piece: what came of it stays, is
// made sure of, and can be sent on when it is whole.
func TestGoneInAPiece(t *testing.T) {
	for k := range api.MaxConns {
		p := New()
		says(t, p, in(k, create("Upload-Length: 9")), answers(createdAt(1)))
		text := patch(1, 0, "abcdefghi")
		says(t, p, in(k, text[:len(text)-6]), Out{})
		does(t, p, gone(k), Out{}, "\x07\x03\x02\x01abc")
		leaves(t, p, gone(k), Out{})
		leaves(t, p, in(k, other("HEAD", 1)), answers(has(3, 9)))
		leaves(t, p, send(1), fails(api.ErrShort))
		says(t, p, in((k+1)%4, patch(1, 3, "defghi")+"x"), answers(offsetAt(9)))
		does(t, p, send(1), goes(1, "", "abcdefghi"), "\x04\x06\x02\x01")
		trails(t, p, 1)
	}
}

// Two ports beside each other know nothing of one another.
func TestTwoPorts(t *testing.T) {
	a, b := New(), New()
	for id := 1; id <= 3; id++ {
		says(t, a, in(0, form(file("a", fmt.Sprint("a", id)))), answers(told("201 Created", fmt.Sprintf("%d a\n", id))))
	}
	leaves(t, b, send(1), fails(api.ErrNone))
	holds(t, b)
	says(t, b, in(0, create("Upload-Length: 0")), answers(createdAt(1)))
	was := state(b)
	says(t, a, send(3), goes(3, "filename a", "a3"))
	says(t, a, send(1), goes(1, "filename a", "a1"))
	says(t, a, taken(1), Out{})
	says(t, a, in(2, "GET"), Out{})
	says(t, a, in(3, "\n"), answers(told("400 Bad Request", "")))
	if now := state(b); now != was {
		t.Errorf("the other one became %s, was %s", quote(now), quote(was))
	}
	trails(t, b)
	leaves(t, b, in(3, ask("GET", "/", "")), answers(told("404 Not Found", "")))
	was = state(a)
	does(t, b, send(1), goes(1, "", ""), "\x04\x06\x02\x01")
	does(t, b, taken(1), Out{}, "\x04\x07\x02\x01")
	says(t, b, crash(0), Out{})
	if now := state(a); now != was {
		t.Errorf("the other one became %s, was %s", quote(now), quote(was))
	}
	trails(t, a, 3, 1)
	trails(t, b, 1)
}

// A new one has nothing.
func TestNew(t *testing.T) {
	p := New()
	if got, want := state(p), " false false false false trail [] used 0 next 1 sure 0 log 0 "; got != want {
		t.Errorf("%q, want %q", got, want)
	}
	for k := range api.MaxConns {
		leaves(t, p, in(k, ask("GET", "/", "")), answers(told("404 Not Found", "")))
	}
	if !p.Room(api.MaxLog) || p.Room(api.MaxLog+1) {
		t.Errorf("its log is not empty")
	}
}

// What is answered is memory of its own, and what is handed in is neither
// changed nor kept.
func TestMemory(t *testing.T) {
	p := New()
	piece := patch(1, 0, "abcd")
	text := []byte(create("Upload-Length: 4", "Upload-Metadata: m") + piece[:len(piece)-2] + "behind")
	x := api.Step{Kind: api.SBytes, Bytes: text[:len(text)-6]}
	first := p.Do(x)
	if want := create("Upload-Length: 4", "Upload-Metadata: m") + piece[:len(piece)-2] + "behind"; string(text) != want {
		t.Errorf("what was handed in became %q", text)
	}
	clear(text)
	rest := []byte("cdbehind")
	second := p.Do(api.Step{Kind: api.SBytes, Bytes: rest[:2]})
	clear(rest)
	if got := show(first) + show(second); got != show(answers(createdAt(1)))+show(answers(offsetAt(4))) {
		t.Fatalf("answered: %s", got)
	}
	clear(append(first.Bytes, "more"...))
	if show(second) != show(answers(offsetAt(4))) {
		t.Errorf("two answers share memory: %s", show(second))
	}
	holds(t, p, "1 4 0 m: abcd")
	out := p.Do(send(1))
	if show(out) != show(goes(1, "m", "abcd")) {
		t.Fatalf("sent on: %s", show(out))
	}
	clear(append(out.Up, "more"...))
	clear(out.Up[:cap(out.Up)])
	holds(t, p, "1 4 1 m: abcd")
	for range 5 {
		says(t, p, send(whole(t, p, "", "")), goes(p.Next()-1, "", ""))
		l := p.Trail()
		want := fmt.Sprint(l)
		clear(p.Trail())
		m := append(p.Trail(), 77)
		says(t, p, send(whole(t, p, "", "")), goes(p.Next()-1, "", ""))
		if fmt.Sprint(l) != want || m[len(m)-1] != 77 {
			t.Errorf("Trail became %v, was %s", l, want)
		}
	}
	trails(t, p, 1, 2, 3, 4, 5, 6, 7, 8, 9, 10, 11)
}

// A port is a gate and a store: what is asked of it by their methods is done to
// the store that the steps are done to.
func TestAPortIsAGate(t *testing.T) {
	p := New()
	out, code := p.Feed(1, []byte(create("Upload-Length: 2")))
	if string(out) != createdAt(1) || code != 0 {
		t.Errorf("Feed: %q, %d", out, code)
	}
	if code := p.Append(1, 0, []byte("hi")); code != 0 {
		t.Errorf("Append: %d", code)
	}
	says(t, p, in(1, "GET / HT"), Out{})
	if !p.Busy(1) || p.Gone(1) != 0 || p.Busy(1) {
		t.Errorf("the gate is another one")
	}
	says(t, p, send(1), goes(1, "", "hi"))
	u, ok := p.Get(1)
	if !ok || u.Sent != api.Begun || len(p.Gate.List()) != 1 || len(p.Store.List()) != 1 || len(p.Spool.List()) != 1 {
		t.Errorf("Get: %v, %v", u, ok)
	}
	if code := p.End(1); code != 0 {
		t.Errorf("End: %d", code)
	}
	leaves(t, p, taken(1), fails(api.ErrSent))
}
