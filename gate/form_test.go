package gate

import (
	"fmt"
	"strings"
	"testing"

	"lighterage/store"
)

// landed: the entries of a file that lands: those of its Create and its Append.
func landed(id int, name, bytes string) string {
	size := []byte{byte(len(bytes) + 1)}
	if len(bytes) >= 127 {
		size = []byte{byte((len(bytes)+1)%128 + 128), byte((len(bytes) + 1) / 128)}
	}
	first := fmt.Sprintf("\x02%s%sfilename %s", []byte{byte(id + 1)}, size, name)
	second := fmt.Sprintf("\x03%s\x01%s", []byte{byte(id + 1)}, bytes)
	return sized(first) + sized(second)
}

func dropped(id int) string { return "\x04\x05" + string([]byte{byte(id + 1)}) + "\x01" }

// sized: an entry with how many bytes it has ahead.
func sized(s string) string {
	n := len(s) + 1
	if n < 128 {
		return string([]byte{byte(n)}) + s
	}
	return string([]byte{byte(n%128 + 128), byte(n / 128)}) + s
}

// A form with several files, and with a part that is none.
func TestAFormOfSeveralFiles(t *testing.T) {
	g := open(unsure)
	does(t, g, 0, postForm(file("a.txt", "hello"), part("p"), file("b", ""), file("c", "\x00\xff\r\n")), told(201, "2 a.txt\n3 b\n4 c\n"),
		"\x12\x02\x03\x06filename a.txt", "\x09\x03\x03\x01hello", "\x0e\x02\x04\x01filename b", "\x04\x03\x04\x01", "\x0e\x02\x05\x05filename c", "\x08\x03\x05\x01\x00\xff\r\n")
	holds(t, "landed", g.Store, "1 9 m: ab", "2 5 filename a.txt: hello", "3 0 filename b: ", "4 4 filename c: \x00\xff\r\n")
	for _, u := range g.List()[1:] {
		if u.Size != len(u.Bytes) || u.Sent != 0 {
			t.Errorf("%d is not whole: %v", u.ID, u)
		}
	}
	does(t, g, 1, inChunks("POST", "/form", []string{form(file("d", "e"))[:9], form(file("d", "e"))[9:]}, ofForm), told(201, "5 d\n"), landed(5, "d", "e"))
	feeds(t, g, 0, other("HEAD", 2), tusTold("200 OK", "Upload-Offset: 5", "Upload-Length: 5", "Cache-Control: no-store", "Upload-Metadata: filename a.txt"))
	feeds(t, g, 0, other("DELETE", 5), tusTold("204 No Content"))
	does(t, g, 0, postForm(file("f", "")), told(201, "6 f\n"), landed(6, "f", ""))
}

func TestContentTypeOfAForm(t *testing.T) {
	body := form(file("a", "b"))
	for _, lines := range [][]string{
		nil, {"Content-Type:"}, {"Content-Type: "}, {"Content-Typ: multipart/form-data; boundary=X"}, {"X-Content-Type: multipart/form-data; boundary=X"},
		{ofForm, ofForm}, {ofForm, "content-type: text/plain"}, {"Content-Type: text/plain", ofForm}, {ofForm, "CONTENT-TYPE:"},
		{"Content-Type: multipart/form-data"}, {"Content-Type: multipart/form-data; charset=X"}, {"Content-Type: multipart/form-data; bound=X"}, {"Content-Type: multipart/form-data; boundary*=X"},
		{"Content-Type: text/plain; boundary=X"}, {"Content-Type: multipart/form-dat; boundary=X"}, {"Content-Type: multipart/form-data2; boundary=X"}, {"Content-Type: multipart/mixed; boundary=X"},
		{"Content-Type: multipart; boundary=X"}, {"Content-Type: form-data; boundary=X"}, {"Content-Type: application/offset+octet-stream; boundary=X"}, {"Content-Type: boundary=X"},
		{"Content-Type: multipart/form-data; boundary="}, {"Content-Type: multipart/form-data; boundary"}, {"Content-Type: multipart/form-data boundary=X"}, {"Content-Type: multipart/form-data, boundary=X"},
		{"Content-Type: multipart/form-data; boundary=X;"}, {"Content-Type: multipart/form-data; boundary=X; boundary=X"}, {`Content-Type: multipart/form-data; boundary="X`}, {"Content-Type: multipart /form-data; boundary=X"},
		{"Content-Type: multipart/form-data; boundary=X" + strings.Repeat("; a=b", 2)}, {"Content-Type: multipart/form-data; a=1; b=1; c=1; d=1; e=1; f=1; g=1; h=1; boundary=X"},
	} {
		// What the body is does not matter then.
		for _, b := range []string{body, "no form", "", form()} {
			leaves(t, open(unsure), 0, ask("POST", "/form", b, lines...), told(415, ""))
		}
	}
	for _, line := range []string{
		ofForm, "content-type: multipart/form-data; boundary=X", "CONTENT-TYPE:multipart/form-data;boundary=X", "Content-Type: Multipart/FORM-data ; BOUNDARY=X", `Content-Type: multipart/form-data; boundary="X"`,
		`Content-Type: multipart/form-data; boundary="\X"`, "Content-Type: multipart/form-data; charset=utf-8; boundary=X; a=b", "Content-Type: \t multipart/form-data \t ; \t boundary=X \t ",
		"Content-Type: multipart/form-data; a=1; b=1; c=1; d=1; e=1; f=1; g=1; boundary=X",
	} {
		does(t, open(unsure), 0, ask("POST", "/form", body, line), told(201, "2 a\n"), landed(2, "a", "b"))
	}
}

// A boundary that is there, but may not be, or is not the one of the body: that
// is no form.
func TestBoundariesOfAForm(t *testing.T) {
	body := form(file("a", "b"))
	for _, value := range []string{`""`, `" "`, `" X"`, `"X "`, `"X\t"`, some(71), "x", "XX", "--X", `"X--"`} {
		leaves(t, open(unsure), 0, ask("POST", "/form", body, "Content-Type: multipart/form-data; boundary="+value), told(400, ""))
	}
	for _, x := range []struct{ value, boundary string }{{some(70), some(70)}, {`"a b"`, "a b"}, {`"a\"b"`, `a"b`}, {`"a:b/c?(d)"`, "a:b/c?(d)"}, {"\"\xff\"", "\xff"}, {`"\t"`, "t"}} {
		text := strings.ReplaceAll(body, "--X", "--"+x.boundary)
		does(t, open(unsure), 0, ask("POST", "/form", text, "Content-Type: multipart/form-data; boundary="+x.value), told(201, "2 a\n"), landed(2, "a", "b"))
	}
}

func TestBodiesThatAreNoForm(t *testing.T) {
	whole := form(file("a", "b"), file("c", "d"))
	for n := range len(whole) - 2 {
		// Cut off ahead of the last two strokes' end.
		leaves(t, open(unsure), 0, ask("POST", "/form", whole[:n], ofForm), told(400, ""))
	}
	does(t, open(unsure), 0, ask("POST", "/form", whole[:len(whole)-2], ofForm), told(201, "2 a\n3 c\n"), landed(2, "a", "b"), landed(3, "c", "d"))
	ahead := file("a", "b")
	for _, body := range []string{
		"no form", "X--", "--X", "--Xx\r\n", "--X\rx", "--X-x", ahead + "--X\r\n", ahead + "--X\r\n\r\n--X--", ahead + "--X\r\nContent-Disposition: form-data\r\n\r\n--X--",
		ahead + "--X\r\nContent-Disposition: file; name=a\r\n\r\n--X--", ahead + "--X\r\nContent-Type: a\r\n\r\n--X--", ahead + "--X\r\nx\r\n\r\n--X--", ahead + "--X\r\nContent-Disposition: form-data; name=a;\r\n\r\n--X--",
		ahead + "--X\r\nContent-Disposition: form-data; name=a; filename*=x\r\n\r\n--X--", ahead + "--X\r\nContent-Disposition: form-data; name=a\n\r\n--X--",
		ahead + "--X\r\nContent-Disposition: form-data; name=a\r\n" + some(41) + ": a\r\n\r\n--X--", ahead + "--X\r\n" + some(201) + "\r\n\r\n--X--",
		ahead + "--X\r\nContent-Disposition: form-data; name=a\r\nContent-Type: a\r\nContent-Type: a\r\n\r\n--X--", strings.Repeat(part(""), 13) + "--X--", strings.Repeat(file("a", ""), 13) + "--X--",
	} {
		leaves(t, open(unsure), 0, ask("POST", "/form", body, ofForm), told(400, ""))
	}
	// What comes ahead of a form and behind it is none of it.
	does(t, open(unsure), 0, ask("POST", "/form", "ahead\r\n"+whole+"behind --X", ofForm), told(201, "2 a\n3 c\n"), landed(2, "a", "b"), landed(3, "c", "d"))
}

// Only parts with a File land, by the name that is made safe.
func TestFilesOfParts(t *testing.T) {
	for _, x := range []struct{ named, name string }{
		{"a", "a"}, {"", "file"}, {".", "file"}, {"..", "file"}, {"/", "file"}, {"a/", "file"}, {"../../etc/.x", "x"}, {"/etc/passwd", "passwd"}, {`C:\\x\\y.txt`, "y.txt"}, {".hidden", "hidden"},
		{"a:b", "a_b"}, {`a\"b`, "a_b"}, {"a\tb", "a_b"}, {"a b", "a b"}, {" a", " a"}, {"é", "é"}, {"\xff\xfe", "\xff\xfe"}, {some(40), some(40)}, {some(41), some(40)}, {some(100), some(40)},
	} {
		g := open(unsure)
		does(t, g, 0, postForm(part("p"), file(x.named, "bytes"), part("q")), told(201, "2 "+x.name+"\n"), landed(2, x.name, "bytes"))
		holds(t, x.named, g.Store, "1 9 m: ab", "2 5 filename "+x.name+": bytes")
	}
	coded := "--X\r\nContent-Disposition: form-data; name=a; filename=n; filename*=UTF-8''%2e%2E%2fb%00\r\nContent-Type: text/plain\r\n\r\nbytes\r\n"
	does(t, open(unsure), 0, postForm(coded), told(201, "2 b_\n"), landed(2, "b_", "bytes"))
	same := file("a", "one") + file("a", "one")
	does(t, open(unsure), 0, postForm(same), told(201, "2 a\n3 a\n"), landed(2, "a", "one"), landed(3, "a", "one"))
}

// A form without files: nothing lands, but what was done ahead is made sure of.
func TestAFormWithoutFiles(t *testing.T) {
	for _, parts := range [][]string{nil, {part("")}, {part("a"), part(some(3000))}, {strings.Repeat(part("a"), 12)}} {
		g := open(unsure)
		does(t, g, 0, postForm(parts...), told(201, ""))
		holds(t, "none", g.Store, "1 9 m: ab")
		if g.Next() != 2 {
			t.Errorf("a number was given")
		}
	}
}

// many: so many uploads, with that many bytes in all, not made sure of.
func many(count, bytes int) func(st *store.Store) {
	return func(st *store.Store) {
		for range count {
			id, _ := st.Create(-1, "")
			n := min(bytes, 2000)
			st.Append(id, 0, []byte(some(n)))
			bytes -= n
		}
	}
}

// As many uploads as there may be, and one more: then none of the form's is
// left.
func TestAsManyUploads(t *testing.T) {
	parts := []string{file("a", "one"), part("p"), file("b", ""), file("c", "three")}
	g := open(many(9, 0))
	does(t, g, 0, postForm(parts...), told(201, "10 a\n11 b\n12 c\n"), landed(10, "a", "one"), landed(11, "b", ""), landed(12, "c", "three"))
	does(t, g, 0, postForm(part("p")), told(201, ""))
	does(t, g, 0, postForm(file("d", "")), told(507, ""))
	if len(g.List()) != 12 || g.Next() != 13 {
		t.Errorf("%d uploads, next %d", len(g.List()), g.Next())
	}

	g = open(many(10, 0))
	does(t, g, 0, postForm(parts...), told(507, ""), landed(11, "a", "one"), landed(12, "b", ""), dropped(11), dropped(12))
	if len(g.List()) != 10 || g.Next() != 13 {
		t.Errorf("%d uploads, next %d", len(g.List()), g.Next())
	}
	// Their numbers are not given again.
	does(t, g, 1, postForm(parts[:3]...), told(201, "13 a\n14 b\n"), landed(13, "a", "one"), landed(14, "b", ""))

	g = open(many(12, 0))
	does(t, g, 0, postForm(parts...), told(507, ""))

	g = open()
	all, want, entries := "", "", ""
	for i := range 12 {
		all += file(fmt.Sprint("n", i), fmt.Sprint(i))
		want += fmt.Sprintf("%d n%d\n", i+1, i)
		entries += landed(i+1, fmt.Sprint("n", i), fmt.Sprint(i))
	}
	does(t, g, 0, postForm(all), told(201, want), entries)
}

// As many bytes as there may be, and one more, in the midst of a form: the one
// that has the code is dropped first, then the others from the first one on.
func TestAsManyBytes(t *testing.T) {
	parts := []string{file("a", some(300)), part(some(100)), file("b", "bb"), file("c", ""), file("d", some(200)), file("e", "ee")}
	g := open(many(3, 6000-504))
	does(t, g, 0, postForm(parts...), told(201, "4 a\n5 b\n6 c\n7 d\n8 e\n"), landed(4, "a", some(300)), landed(5, "b", "bb"), landed(6, "c", ""), landed(7, "d", some(200)), landed(8, "e", "ee"))
	if g.Used() != 6000 {
		t.Errorf("%d bytes in all", g.Used())
	}
	does(t, g, 0, postForm(file("f", "")), told(201, "9 f\n"), landed(9, "f", ""))
	create := "\x0e\x02\x0b\x02filename g"
	does(t, g, 0, postForm(file("g", "h")), told(507, ""), create, dropped(10))

	g = open(many(3, 6000-503))
	create = sized("\x02\x09\x03filename e")
	does(t, g, 0, postForm(parts...), told(507, ""), landed(4, "a", some(300)), landed(5, "b", "bb"), landed(6, "c", ""), landed(7, "d", some(200)), create,
		dropped(8), dropped(4), dropped(5), dropped(6), dropped(7))
	if g.Used() != 6000-503 || len(g.List()) != 3 || g.Next() != 9 {
		t.Errorf("%d bytes of %d uploads, next %d", g.Used(), len(g.List()), g.Next())
	}

	g = open(many(3, 6000-302))
	create = sized("\x02\x08\xc9\x01filename d")
	does(t, g, 0, postForm(parts...), told(507, ""), landed(4, "a", some(300)), landed(5, "b", "bb"), landed(6, "c", ""), create, dropped(7), dropped(4), dropped(5), dropped(6))
	g = open(many(3, 6000))
	create = sized("\x02\x05\xad\x02filename a")
	does(t, g, 0, postForm(parts...), told(507, ""), create, dropped(4))
}

// A file as long as may be, and a byte longer.
func TestFilesThatAreTooLong(t *testing.T) {
	g := open(unsure)
	does(t, g, 0, postForm(file("a", some(2000)), file("b", "c")), told(201, "2 a\n3 b\n"), landed(2, "a", some(2000)), landed(3, "b", "c"))
	for _, n := range []int{2001, 2002, 3500} {
		g := open(unsure)
		does(t, g, 0, postForm(file("b", "c"), file("d", ""), file("a", some(n)), file("e", "f")), told(413, ""), landed(2, "b", "c"), landed(3, "d", ""), dropped(2), dropped(3))
		holds(t, "none", g.Store, "1 9 m: ab")
		does(t, g, 0, postForm(file("a", some(n))), told(413, ""))
		// What is no file may be as long as it is.
		does(t, g, 0, postForm(part(some(n)), file("b", "c")), told(201, "4 b\n"), landed(4, "b", "c"))
	}
	// The first code is told: too many ahead of too long, and the other way.
	g = open(many(11, 0))
	does(t, g, 0, postForm(file("b", ""), file("c", ""), file("a", some(2001))), told(507, ""), landed(12, "b", ""), dropped(12))
	does(t, g, 0, postForm(file("b", ""), file("a", some(2001)), file("c", "")), told(413, ""), landed(13, "b", ""), dropped(13))
}

// A name that ends with a blank is none that may be told of an upload: its
// Create has another code than ErrLong.
func TestNamesThatEndWithABlank(t *testing.T) {
	for _, name := range []string{"a ", " ", "a  ", some(39) + " b"} {
		g := open(unsure)
		does(t, g, 0, postForm(file("b", "c"), file(name, "d"), file("e", "f")), told(507, ""), landed(2, "b", "c"), dropped(2))
		holds(t, name, g.Store, "1 9 m: ab")
	}
}

// The log has just room, or lacks a byte.
func TestRoomOfAForm(t *testing.T) {
	for _, x := range []struct {
		parts []string
		need  int
		want  string // of the 201, with the numbers left out
	}{
		{nil, 0, ""},
		{[]string{part("")}, 200, ""},
		{[]string{part("abc"), part(some(1000))}, 1403, ""},
		{[]string{file("a", "")}, 200, "%d a\n"},
		{[]string{file("a", "bytes")}, 205, "%d a\n"},
		{[]string{file("a", some(2000)), part("p"), file("b", "c")}, 2602, "%d a\n%d b\n"},
		{[]string{strings.Repeat(file(some(40), "xyz"), 12)}, 2436, strings.Repeat("%d "+some(40)+"\n", 12)},
	} {
		for _, few := range []int{-1, 0, 1, 100, x.need} {
			if few > x.need || few > 0 && x.need == 0 {
				continue
			}
			g := open(func(st *store.Store) { pad(t, st, 100000-max(0, x.need-few)) })
			if few > 0 {
				leaves(t, g, 0, postForm(x.parts...), told(507, ""))
				leaves(t, g, 0, ask("POST", "/form", form(x.parts...), "Content-Type: x"), told(415, ""))
				continue
			}
			var ids []any
			for i := range strings.Count(x.want, "%d") {
				ids = append(ids, g.Next()+i)
			}
			was := g.Next()
			feeds(t, g, 0, postForm(x.parts...), told(201, fmt.Sprintf(x.want, ids...)))
			log, sure := g.Log()
			if sure != len(log) || g.Next() != was+len(ids) || len(g.List()) != len(ids) {
				t.Errorf("just room for %d: %q", x.need, short(state(g.Store)))
			}
		}
	}
}

// Where the log has no room, what was done ahead is not made sure of; the body
// is looked at first.
func TestNoRoomForAForm(t *testing.T) {
	g := open(func(st *store.Store) {
		pad(t, st, 100000-11-200)
		unsure(st)
	})
	leaves(t, g, 0, postForm(file("a", "b")), told(507, ""))
	leaves(t, g, 0, ask("POST", "/form", "x", ofForm), told(400, ""))
	leaves(t, g, 0, ask("POST", "/form", form(file("a", "b")), "Content-Type: x"), told(415, ""))
	leaves(t, g, 0, ask("PUT", "/form", form(file("a", "b")), ofForm), told(405, ""))
	// A file that is too long is told only where there is room.
	leaves(t, g, 0, postForm(file("a", some(2001))), told(507, ""))
	feeds(t, g, 0, postForm(file("a", "")), told(201, fmt.Sprintf("%d a\n", g.Next())))
}

// Numbers of several digits, and of several bytes in the log.
func TestGreatNumbers(t *testing.T) {
	st := store.New()
	for st.Next() < 998 {
		id, code := st.Create(-1, "")
		if code != 0 || st.Drop(id) != 0 {
			t.Fatalf("no number %d", st.Next())
		}
	}
	g := New(st)
	feeds(t, g, 0, postForm(file("a", "b"), file("c", ""), file("d", "e")), told(201, "998 a\n999 c\n1000 d\n"))
	// 1001 and 1002, each number in two bytes.
	does(t, g, 0, postForm(file("a", "b"), file("c", ""), file("d", some(2001))), told(413, ""),
		sized("\x02\xea\x07\x02filename a"), sized("\x03\xea\x07\x01b"), sized("\x02\xeb\x07\x01filename c"), sized("\x03\xeb\x07\x01"), sized("\x05\xea\x07\x01"), sized("\x05\xeb\x07\x01"))
}
