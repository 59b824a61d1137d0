package port

import (
	"fmt"
	"testing"

	"lighterage/api"
	"lighterage/request"
)

// What an upload must be to be sent on, and to be told.
func TestCodesOfSendAndTold(t *testing.T) {
	p := New()
	whole(t, p, "", "ab")         // 1: goes on
	p.Create(3, "")               // 2: nothing came
	p.Create(3, "")               // 3: a piece came
	p.Create(-1, "")              // 4: its size is not told
	p.Create(-1, "")              // 5: nor is it of one that has bytes
	whole(t, p, "", "cd")         // 6: is begun
	whole(t, p, "", "ef")         // 7: was sent
	p.Drop(whole(t, p, "", "gh")) // 8: is gone
	p.Append(3, 0, []byte("ab"))
	p.Append(5, 0, []byte("ab"))
	p.Sync()
	says(t, p, send(6), goes(6, "", "cd"))
	says(t, p, send(7), goes(7, "", "ef"))
	says(t, p, taken(7), Out{})
	for _, unsure := range []bool{false, true} {
		if unsure {
			p.Create(9, "") // What has a code makes sure of nothing.
		}
		for _, x := range []struct{ id, send, told int }{
			{1, 0, api.ErrSent}, {2, api.ErrShort, api.ErrSent}, {3, api.ErrShort, api.ErrSent}, {4, api.ErrShort, api.ErrSent}, {5, api.ErrShort, api.ErrSent},
			{6, api.ErrSent, 0}, {7, api.ErrSent, api.ErrSent}, {8, api.ErrNone, api.ErrNone}, {0, api.ErrNone, api.ErrNone}, {-1, api.ErrNone, api.ErrNone}, {10, api.ErrNone, api.ErrNone}, {1 << 30, api.ErrNone, api.ErrNone},
		} {
			if x.send != 0 {
				leaves(t, p, send(x.id), fails(x.send))
			}
			if x.told != 0 {
				leaves(t, p, taken(x.id), fails(x.told))
			}
		}
		for _, id := range others {
			leaves(t, p, send(id), fails(api.ErrNone))
			leaves(t, p, taken(id), fails(api.ErrNone))
		}
	}
	trails(t, p, 6, 7)
	says(t, p, send(1), goes(1, "", "ab"))
	says(t, p, taken(6), Out{})
	trails(t, p, 6, 7, 1)
	for _, id := range []int{1, 6, 7} {
		leaves(t, p, send(id), fails(api.ErrSent))
	}
	says(t, p, taken(1), Out{})
	for _, id := range []int{1, 6, 7} {
		leaves(t, p, taken(id), fails(api.ErrSent))
	}
}

// What was done ahead of it, and not made sure of, is made sure of, too.
func TestSendAndToldMakeSure(t *testing.T) {
	p := New()
	p.Create(2, "m")
	p.Append(1, 0, []byte("hi"))
	sure(t, p, 0, 11)
	does(t, p, send(1), goes(1, "m", "hi"), "\x04\x06\x02\x01")
	sure(t, p, 15, 15)
	p.Create(9, "")
	sure(t, p, 15, 19)
	does(t, p, taken(1), Out{}, "\x04\x07\x02\x01")
	sure(t, p, 23, 23)
}

// An upload whose size is told only when it has all its bytes.
func TestSizeToldLate(t *testing.T) {
	p := New()
	says(t, p, in(0, create("Upload-Defer-Length: 1")+patch(1, 0, "abc")), answers(createdAt(1)+offsetAt(3)))
	leaves(t, p, send(1), fails(api.ErrShort))
	says(t, p, in(0, patch(1, 3, "d", "Upload-Length: 5")), answers(offsetAt(4)))
	leaves(t, p, send(1), fails(api.ErrShort))
	says(t, p, in(0, patch(1, 4, "e")), answers(offsetAt(5)))
	does(t, p, send(1), goes(1, "", "abcde"), "\x04\x06\x02\x01")
}

// reads: what is sent on is one request, and this one.
func reads(t *testing.T, up []byte, id int, meta, body string) {
	t.Helper()
	r := request.New()
	l := r.Feed(up)
	want := []int{api.EHead, api.EBody, api.EEnd}
	if body == "" {
		want = []int{api.EHead, api.EEnd}
	}
	var kinds []int
	for _, e := range l {
		kinds = append(kinds, e.Kind)
	}
	if fmt.Sprint(kinds) != fmt.Sprint(want) || r.Busy() || r.Dead() {
		t.Errorf("%s is read as %v", quote(string(up)), kinds)
		return
	}
	fields := fmt.Sprintf("[{Host inland} {Upload-Metadata %s} {Content-Length %d}]", meta, len(body))
	if meta == "" {
		fields = fmt.Sprintf("[{Host inland} {Content-Length %d}]", len(body))
	}
	h := l[0].Head
	if h.Method != "POST" || h.Target != fmt.Sprint("/take/", id) || h.Minor != 1 || fmt.Sprint(h.Fields) != fields || body != "" && string(l[1].Bytes) != body {
		t.Errorf("%s is read as %v", quote(string(up)), l)
	}
}

// What is sent on, byte by byte.
func TestWhatIsSentOn(t *testing.T) {
	every := make([]byte, 256)
	for i := range every {
		every[i] = byte(i)
	}
	inner := "POST /take/9 HTTP/1.1\r\nHost: inland\r\nContent-Length: 2\r\n\r\nhi"
	metas := []string{"", "m", "filename a b.txt", "a\tb", "a: b, c", "\xff\xc3\xa9", some(99), some(100), "Content-Length: 5"}
	bodies := []string{"", "x", "\r\n", "\x00", "\r\n\r\n", "0\r\n\r\n", inner, string(every), some(9), some(10), some(99), some(100), some(999), some(1000), some(1999), some(2000)}
	for _, meta := range metas {
		for _, body := range bodies {
			p := New()
			whole(t, p, meta, body)
			out := p.Do(send(1))
			if want := goes(1, meta, body); show(out) != show(want) {
				t.Errorf("sent on: %s, want %s", short(show(out)), short(show(want)))
			}
			reads(t, out.Up, 1, meta, body)
		}
	}
}

// Numbers of one digit and of more.
func TestNumbersThatAreSentOn(t *testing.T) {
	p := New()
	var want []int
	for _, id := range []int{1, 2, 9, 10, 11, 42, 99, 100, 101, 126, 127, 128, 255, 256, 999, 1000, 1001, 4096, 8000} {
		raise(t, p, id)
		if id%2 == 0 {
			says(t, p, in(0, form(file("n", "hi"))), answers(told("201 Created", fmt.Sprintf("%d n\n", id))))
		} else if got := whole(t, p, "filename n", "hi"); got != id {
			t.Fatalf("%d was created for %d", got, id)
		}
		want = append(want, id)
		does(t, p, send(id), goes(id, "filename n", "hi"), begun(id))
		leaves(t, p, send(id), fails(api.ErrSent))
		trails(t, p, want...)
		does(t, p, taken(id), Out{}, ended(id))
		p.Drop(id)
		says(t, p, crash(100), Out{})
		leaves(t, p, send(id), fails(api.ErrNone))
		trails(t, p, want...)
	}
}

// Uploads in an order that is not that of their numbers.
func TestTrailIsInTheOrderOfSending(t *testing.T) {
	p := New()
	for range 12 {
		whole(t, p, "", "a")
	}
	order := []int{7, 12, 1, 3, 2, 11, 10, 9, 4, 5, 8, 6}
	for i, id := range order {
		says(t, p, send(id), goes(id, "", "a"))
		leaves(t, p, send(id), fails(api.ErrSent))
		trails(t, p, order[:i+1]...)
		if i%3 == 1 {
			says(t, p, crash(i), Out{})
			trails(t, p, order[:i+1]...)
		}
		if i%4 == 2 {
			says(t, p, taken(id), Out{})
			says(t, p, in(0, other("DELETE", id)), answers(tusTold("204 No Content")))
			trails(t, p, order[:i+1]...)
		}
	}
	for _, id := range order {
		code := api.ErrSent
		if _, there := p.Get(id); !there {
			code = api.ErrNone
		}
		leaves(t, p, send(id), fails(code))
	}
}

// tight: an upload that is whole, and a log that has room for so many bytes.
func tight(t *testing.T, room int) (*Port, int) {
	t.Helper()
	p := New()
	pad(t, p, api.MaxLog-room-11)
	id := whole(t, p, "m", "hi")
	sure(t, p, api.MaxLog-room, api.MaxLog-room)
	return p, id
}

func TestSendWithoutRoom(t *testing.T) {
	for room := range 4 {
		p, id := tight(t, room)
		for range 2 {
			leaves(t, p, send(id), fails(api.ErrFull))
			leaves(t, p, taken(id), fails(api.ErrSent))
			leaves(t, p, send(id+1), fails(api.ErrNone))
			trails(t, p)
			leaves(t, p, crash(0), Out{})
		}
		holds(t, p, fmt.Sprintf("%d 2 0 m: hi", id))
	}
	p, id := tight(t, 4)
	does(t, p, send(id), goes(id, "m", "hi"), begun(id))
	sure(t, p, api.MaxLog, api.MaxLog)
	for range 2 {
		leaves(t, p, send(id), fails(api.ErrSent))
		leaves(t, p, taken(id), fails(api.ErrFull))
		trails(t, p, id)
		leaves(t, p, crash(9), Out{})
	}
	holds(t, p, fmt.Sprintf("%d 2 1 m: hi", id))
}

func TestToldWithoutRoom(t *testing.T) {
	for room := 4; room < 8; room++ {
		p, id := tight(t, room)
		does(t, p, send(id), goes(id, "m", "hi"), begun(id))
		for range 2 {
			leaves(t, p, taken(id), fails(api.ErrFull))
			leaves(t, p, send(id), fails(api.ErrSent))
			trails(t, p, id)
			leaves(t, p, crash(room), Out{})
		}
		holds(t, p, fmt.Sprintf("%d 2 1 m: hi", id))
	}
	p, id := tight(t, 8)
	does(t, p, send(id), goes(id, "m", "hi"), begun(id))
	does(t, p, taken(id), Out{}, ended(id))
	sure(t, p, api.MaxLog, api.MaxLog)
	leaves(t, p, taken(id), fails(api.ErrSent))
	holds(t, p, fmt.Sprintf("%d 2 2 m: hi", id))
}

// Beyond the number 126 an entry has a byte more.
func TestLongEntriesWithoutRoom(t *testing.T) {
	for _, x := range []struct{ room, send, told int }{{3, api.ErrFull, api.ErrSent}, {4, api.ErrFull, api.ErrSent}, {5, 0, api.ErrFull}, {9, 0, api.ErrFull}, {10, 0, 0}} {
		p := New()
		pad(t, p, 90000)
		raise(t, p, 127)
		id := whole(t, p, "", "ab")
		pad(t, p, api.MaxLog-x.room)
		if x.send != 0 {
			leaves(t, p, send(id), fails(x.send))
			trails(t, p)
		} else {
			does(t, p, send(id), goes(id, "", "ab"), "\x05\x06\x80\x01\x01")
			trails(t, p, id)
		}
		if x.told != 0 {
			leaves(t, p, taken(id), fails(x.told))
		} else {
			does(t, p, taken(id), Out{}, "\x05\x07\x80\x01\x01")
		}
	}
}

// In a log that is full the codes of uploads are told first.
func TestCodesAheadOfRoom(t *testing.T) {
	p := New()
	pad(t, p, 90000)
	short, _ := p.Create(2, "")
	next := whole(t, p, "m", "hi")
	begun := whole(t, p, "m", "hi")
	sent := whole(t, p, "m", "hi")
	says(t, p, send(begun), goes(begun, "m", "hi"))
	says(t, p, send(sent), goes(sent, "m", "hi"))
	says(t, p, taken(sent), Out{})
	pad(t, p, api.MaxLog)
	leaves(t, p, send(sent), fails(api.ErrSent))
	leaves(t, p, taken(sent), fails(api.ErrSent))
	leaves(t, p, send(begun), fails(api.ErrSent))
	leaves(t, p, taken(begun), fails(api.ErrFull))
	leaves(t, p, send(short), fails(api.ErrShort))
	leaves(t, p, taken(short), fails(api.ErrSent))
	leaves(t, p, send(next), fails(api.ErrFull))
	leaves(t, p, taken(next), fails(api.ErrSent))
	leaves(t, p, send(1), fails(api.ErrNone))
	leaves(t, p, taken(1), fails(api.ErrNone))
	trails(t, p, begun, sent)
}
