package pack

import (
	"bytes"
	"fmt"
	"io"
	"mime/multipart"
	"slices"
	"strings"
	"testing"

	"lighterage/api"
	"lighterage/fields"
	"lighterage/forms"
	"lighterage/params"
)

const (
	named = "Content-Disposition: form-data; name="
	filed = "; filename="
	typed = "\r\nContent-Type: "
)

func short(s string) string {
	if len(s) > 400 {
		return s[:200] + " .. " + s[len(s)-200:]
	}
	return s
}

func show(l []api.Part) string {
	s := ""
	for _, p := range l {
		s += fmt.Sprintf("part %q %q %q %q|", p.Name, p.File, p.Type, p.Bytes)
	}
	return s
}

// form: a written form, of what stands between its marks.
func form(boundary string, parts ...string) string {
	s := ""
	for _, p := range parts {
		s += "--" + boundary + "\r\n" + p + "\r\n"
	}
	return s + "--" + boundary + "--\r\n"
}

// inPieces: the parts of a form that comes in pieces of that size.
func inPieces(t *testing.T, boundary string, b []byte, size int) ([]api.Part, int) {
	t.Helper()
	f, code := forms.New(boundary)
	if code != 0 {
		t.Fatalf("forms.New of %q: %d", boundary, code)
	}
	var l []api.Part
	for piece := range slices.Chunk(b, size) {
		for _, e := range f.Feed(piece) {
			switch e.Kind {
			case api.EPart:
				l = append(l, e.Part)
			case api.EBody:
				last := &l[len(l)-1]
				last.Bytes = append(last.Bytes, e.Bytes...)
			}
		}
	}
	return l, f.Close()
}

// back: what was written is read as these very parts, at once and in pieces.
func back(t *testing.T, boundary string, l []api.Part, b []byte) {
	t.Helper()
	differ := func(got []api.Part, code int, how ...any) bool {
		t.Helper()
		bad := show(got) != show(l) || code != 0
		if bad {
			t.Errorf("%s, written by %q and read %s: %s, %d", short(show(l)), boundary, fmt.Sprint(how...), short(show(got)), code)
		}
		return bad
	}
	got, code := forms.Read(boundary, b)
	if differ(got, code, "at once") {
		return
	}
	sizes := []int{1, 2, 3, 7, 64}
	if len(b) <= 300 {
		for size := range len(b) {
			sizes = append(sizes, size+1)
		}
	}
	for _, size := range sizes {
		got, code = inPieces(t, boundary, b, size)
		if differ(got, code, "by ", size) {
			return
		}
	}
}

func writes(t *testing.T, boundary string, l []api.Part, want string) {
	t.Helper()
	b, code := Write(boundary, l)
	if string(b) != want || code != 0 {
		t.Errorf("Write by %q of %s:\n%s, %d, want\n%s", boundary, short(show(l)), short(fmt.Sprintf("%q", b)), code, short(fmt.Sprintf("%q", want)))
		return
	}
	back(t, boundary, l, b)
}

func refuses(t *testing.T, boundary string, l []api.Part, want int) {
	t.Helper()
	if b, code := Write(boundary, l); len(b) > 0 || code != want {
		t.Errorf("Write by %q of %s: %s, %d, want %d", boundary, short(show(l)), short(fmt.Sprintf("%q", b)), code, want)
	}
}

// one: the list of that part alone.
func one(p api.Part) []api.Part { return []api.Part{p} }

func TestWrite(t *testing.T) {
	writes(t, "X", one(api.Part{Name: "a", Bytes: []byte("b")}),
		"--X\r\nContent-Disposition: form-data; name=a\r\n\r\nb\r\n--X--\r\n")
	writes(t, "X", []api.Part{{Name: "a b", Bytes: []byte("x\r\n--Y")}, {Name: "f", File: "n.txt", Type: "t/u"}},
		"--X\r\nContent-Disposition: form-data; name=\"a b\"\r\n\r\nx\r\n--Y\r\n"+
			"--X\r\nContent-Disposition: form-data; name=f; filename=n.txt\r\nContent-Type: t/u\r\n\r\n\r\n--X--\r\n")
	writes(t, "a b", []api.Part{{Name: "n", Type: "t", Bytes: []byte("\x00\xff\r\n")}, {Name: "n", File: "c d", Bytes: []byte("--a")}, {Name: "n"}},
		"--a b\r\nContent-Disposition: form-data; name=n\r\nContent-Type: t\r\n\r\n\x00\xff\r\n\r\n"+
			"--a b\r\nContent-Disposition: form-data; name=n; filename=\"c d\"\r\n\r\n--a\r\n"+
			"--a b\r\nContent-Disposition: form-data; name=n\r\n\r\n\r\n--a b--\r\n")
}

func TestNoPart(t *testing.T) {
	for _, boundary := range []string{"X", "-", "--", "a b", strings.Repeat("x", api.MaxMark)} {
		writes(t, boundary, nil, "--"+boundary+"--\r\n")
		writes(t, boundary, []api.Part{}, "--"+boundary+"--\r\n")
	}
}

// A part of which nothing is told is a part.
func TestEmptyPart(t *testing.T) {
	writes(t, "X", one(api.Part{}), form("X", named+"\"\"\r\n\r\n"))
	writes(t, "X", one(api.Part{Bytes: []byte{}}), form("X", named+"\"\"\r\n\r\n"))
	writes(t, "X", make([]api.Part, 2), form("X", named+"\"\"\r\n\r\n", named+"\"\"\r\n\r\n"))
}

func TestBoundaries(t *testing.T) {
	for _, s := range []string{
		"X", "0", "-", "--", "----", "-X", "X-", "\"", "\\", ":", "\xff", "\u00e9", "a b", "a\tb", "a \t b", "form-data", "Content-Type: t",
		strings.Repeat("x", api.MaxMark), strings.Repeat("-", api.MaxMark), "a" + strings.Repeat(" ", api.MaxMark-2) + "b",
	} {
		writes(t, s, one(api.Part{Name: "n", Bytes: []byte("b")}), form(s, named+"n\r\n\r\nb"))
		writes(t, s, []api.Part{{Name: "n", Bytes: []byte("-" + s)}, {Name: "m", File: "f", Type: "t", Bytes: []byte(" --" + s + "--\r\n")}},
			form(s, named+"n\r\n\r\n-"+s, named+"m"+filed+"f"+typed+"t\r\n\r\n --"+s+"--\r\n"))
		refuses(t, s, one(api.Part{Name: "n", Bytes: []byte("--" + s)}), api.ErrClash)
	}
	long := strings.Repeat("x", api.MaxMark+1)
	for _, s := range []string{
		"", long, long + long, " ", "\t", " X", "X ", "\tX", "X\t", " X Y ", "X\r", "X\n", "\r\n", "X\r\nY", "\x00", "X\x00Y", "\x7f", "X\x1f", " " + long[2:],
		"a" + strings.Repeat(" ", api.MaxMark-1) + "b", strings.Repeat("\u00e9", api.MaxMark/2+1),
	} {
		for _, l := range [][]api.Part{nil, one(api.Part{Name: "n"}), make([]api.Part, api.MaxParts+1), one(api.Part{Bytes: []byte("--" + s)}), one(api.Part{File: ".x"}), one(api.Part{Name: "\r"}), one(api.Part{Type: " t"})} {
			refuses(t, s, l, api.ErrForm)
		}
	}
	for n := range 256 {
		for _, s := range []string{string([]byte{byte(n)}), string([]byte{'a', byte(n), 'b'})} {
			if forms.Mark(s) {
				writes(t, s, one(api.Part{Name: "n"}), form(s, named+"n\r\n\r\n"))
			} else {
				refuses(t, s, one(api.Part{Name: "n"}), api.ErrForm)
			}
		}
	}
}

func TestManyParts(t *testing.T) {
	var l []api.Part
	var want []string
	for n := range api.MaxParts {
		body := strings.Repeat("b", n)
		l = append(l, api.Part{Name: fmt.Sprint("n", n), Bytes: []byte(body)})
		want = append(want, fmt.Sprintf("%sn%d\r\n\r\n%s", named, n, body))
		writes(t, "X", l, form("X", want...))
	}
	refuses(t, "X", append(l, api.Part{Name: "n"}), api.ErrMany)
	// It is named ahead of what each part is.
	for _, p := range []api.Part{{Bytes: []byte("--X")}, {File: ".x"}, {Name: "\r"}, {Type: " t"}, {Name: strings.Repeat("n", api.MaxLine)}} {
		refuses(t, "X", append(slices.Clone(l), p), api.ErrMany)
		refuses(t, "X", append(one(p), l...), api.ErrMany)
		refuses(t, "X", slices.Repeat(one(p), 10*api.MaxParts), api.ErrMany)
	}
}

func TestBytes(t *testing.T) {
	for _, body := range []string{
		"", "\r", "\n", "\r\n", "\n\r", "\r\r\n", "\r\n\r\n", "-", "--", "---", "X", "-X", "X--", "\r\n-", "\r\n--", "\r\n---", "\r\n---X", "\r\n-X", "\r\nX", "\r\n -X", "\r\n--x", "\r\n--Y", "\r--X", "\n--X",
		"\r\r--X", "\r\n\n--X", "\r\n--\r\n", "a--X", " --X", "a--X--", "---X", "\r\n--\r\nX", "b\r", "b\r\n", "b\r\n-", "b\r\n--", "--", "\r\n--\r", "\x00--X", named + "n\r\n\r\n", strings.Repeat("\r\n--", 50), strings.Repeat("\r", 50),
		strings.Repeat("x", 10*api.MaxBody),
	} {
		writes(t, "X", one(api.Part{Name: "n", Bytes: []byte(body)}), form("X", named+"n\r\n\r\n"+body))
		writes(t, "X", []api.Part{{Name: "n", Type: "t", Bytes: []byte(body)}, {Name: "m", File: "f", Bytes: []byte(body)}},
			form("X", named+"n"+typed+"t\r\n\r\n"+body, named+"m"+filed+"f\r\n\r\n"+body))
	}
	for n := range 256 {
		body := string([]byte{byte(n)})
		writes(t, "X", one(api.Part{Name: "n", Bytes: []byte(body)}), form("X", named+"n\r\n\r\n"+body))
	}
}

func TestClash(t *testing.T) {
	for _, body := range []string{
		"--X", "--XY", "--X--", "--X\r\n", "--X\x00", "\r\n--X", "b\r\n--X", "b\r\n--X--", "b\r\n--XY", "\r\r\n--X", "\r\n\r\n--X", "\r\n--\r\n--X", "\r\n-\r\n--Xb", "--\r\n--X", strings.Repeat("\r\n--", 50) + "X",
		strings.Repeat("x", 10*api.MaxBody) + "\r\n--X", "\x00\r\n--X\xff", form("X"), form("X", named+"n\r\n\r\n"),
	} {
		refuses(t, "X", one(api.Part{Name: "n", Bytes: []byte(body)}), api.ErrClash)
		refuses(t, "X", []api.Part{{Name: "n"}, {Name: "m", Bytes: []byte(body)}, {Name: "o"}}, api.ErrClash)
		// By another boundary it may be written.
		writes(t, "Z", one(api.Part{Name: "n", Bytes: []byte(body)}), form("Z", named+"n\r\n\r\n"+body))
	}
	// What is no part's bytes clashes with no boundary.
	for _, s := range []string{"form-data", "Content-Disposition", "n", "t", "f", "--"} {
		writes(t, s, one(api.Part{Name: "n", File: "f", Type: "t"}), form(s, named+"n"+filed+"f"+typed+"t\r\n\r\n"))
	}
	writes(t, "X", one(api.Part{Name: "--X", File: "--X", Type: "--X"}), form("X", named+"--X"+filed+"--X"+typed+"--X\r\n\r\n"))
}

// texts: all of at most most of the pieces, one behind the other.
func texts(pieces []string, most int) []string {
	l := []string{""}
	for from, n := 0, 0; n < most; n++ {
		to := len(l)
		for _, s := range slices.Clone(l[from:to]) {
			for _, p := range pieces {
				l = append(l, s+p)
			}
		}
		from = to
	}
	return l
}

func TestAllShortBytes(t *testing.T) {
	for _, boundary := range []string{"X", "-", "--", "X-", "-X", "XX", "X\tX"} {
		for _, body := range texts([]string{"\r", "\n", "-", "X", "\r\n--", "--" + boundary}, 4) {
			l := []api.Part{{Name: "n", Bytes: []byte(body)}, {Name: "m", Bytes: []byte("b")}}
			b, code := Write(boundary, l)
			if strings.Contains("\r\n"+body, "\r\n--"+boundary) {
				if len(b) > 0 || code != api.ErrClash {
					t.Errorf("Write by %q of %q: %q, %d, want ErrClash", boundary, body, b, code)
				}
				continue
			}
			if want := form(boundary, named+"n\r\n\r\n"+body, named+"m\r\n\r\nb"); string(b) != want || code != 0 {
				t.Errorf("Write by %q of %q: %q, %d, want %q", boundary, body, b, code, want)
			}
			for _, size := range []int{len(b), 1, 3} {
				if got, code := inPieces(t, boundary, b, size); show(got) != show(l) || code != 0 {
					t.Errorf("%q, written by %q and read by %d: %s, %d", body, boundary, size, show(got), code)
				}
			}
		}
	}
}

func TestNames(t *testing.T) {
	for name, text := range map[string]string{
		"n": "n", "0": "0", "!#$%&'*+-.^_`|~": "!#$%&'*+-.^_`|~", "N": "N", "name": "name", "": `""`, " ": `" "`, "\t": "\"\t\"", " a ": `" a "`, "a b": `"a b"`, "a;b": `"a;b"`, "a=b": `"a=b"`, "a/b": `"a/b"`, ",": `","`,
		`"`: `"\""`, `\`: `"\\"`, `a"b\c`: `"a\"b\\c"`, `""`: `"\"\""`, `\\`: `"\\\\"`, `\"`: `"\\\""`, `a\`: `"a\\"`, "\xff": "\"\xff\"", "\u00e9": "\"\u00e9\"", "../.x:y": `"../.x:y"`, "; filename=x": `"; filename=x"`,
		`"; filename="x`: `"\"; filename=\"x"`, "file": "file", ".": ".",
	} {
		writes(t, "X", one(api.Part{Name: name}), form("X", named+text+"\r\n\r\n"))
		writes(t, "X", one(api.Part{Name: name, File: "f", Type: "t", Bytes: []byte("b")}), form("X", named+text+filed+"f"+typed+"t\r\n\r\nb"))
	}
	for _, name := range []string{"\r", "\n", "\r\n", "a\r\nb", "\x00", "a\x00", "\x7f", "\x1fa", "n\r\nContent-Type: t", strings.Repeat("n", api.MaxLine) + "\r"} {
		refuses(t, "X", one(api.Part{Name: name}), api.ErrChar)
		refuses(t, "X", []api.Part{{Name: "a"}, {Name: name, File: "f", Type: "t"}}, api.ErrChar)
	}
	for n := range 256 {
		name := string([]byte{'a', byte(n), 'b'})
		if n != '\t' && n < ' ' || n == 127 {
			refuses(t, "X", one(api.Part{Name: name}), api.ErrChar)
			continue
		}
		b, code := Write("X", one(api.Part{Name: name}))
		if code != 0 {
			t.Errorf("Write of the name %q: %d", name, code)
		}
		back(t, "X", one(api.Part{Name: name}), b)
	}
}

func TestFiles(t *testing.T) {
	x := strings.Repeat("x", api.MaxName)
	for file, text := range map[string]string{
		"f": "f", "a.txt": "a.txt", "x.": "x.", "x..y": "x..y", "_": "_", "-": "-", "a b": `"a b"`, " ": `" "`, " .x": `" .x"`, "x ": `"x "`, "file": "file", "\xff": "\"\xff\"", "\u00e9": "\"\u00e9\"", "a;b": `"a;b"`, "a=b": `"a=b"`,
		"%2F": "%2F", "utf-8''f": "utf-8''f", "(": `"("`, "~": "~", x: x, strings.Repeat(" ", api.MaxName): `"` + strings.Repeat(" ", api.MaxName) + `"`, x[1:] + ".": x[1:] + ".",
	} {
		writes(t, "X", one(api.Part{Name: "n", File: file}), form("X", named+"n"+filed+text+"\r\n\r\n"))
		writes(t, "X", one(api.Part{File: file, Type: "t", Bytes: []byte("b")}), form("X", named+"\"\""+filed+text+typed+"t\r\n\r\nb"))
	}
	for _, file := range []string{
		".", "..", ".x", "..x", "/", "\\", "a/b", "a\\b", "/a", "a/", "\\a", "a\\", "../../etc/.x", "C:\\x", ":", "a:b", "\"", "a\"b", "\t", "a\tb", "\r", "\n", "a\r\nb", "\x00", "\x7f", "a\x1fb",
		x + "x", x + ".", "." + x, strings.Repeat("x", api.MaxLine), strings.Repeat("x", 1000), "\u00e9" + x[1:],
	} {
		refuses(t, "X", one(api.Part{Name: "n", File: file}), api.ErrName)
		refuses(t, "X", []api.Part{{Name: "n", File: "f"}, {Name: "n", File: file, Type: "t"}}, api.ErrName)
	}
	for n := range 256 {
		for _, file := range []string{string([]byte{byte(n)}), string([]byte{'a', byte(n), 'b'})} {
			l := one(api.Part{Name: "n", File: file})
			if forms.Safe(file) != file {
				refuses(t, "X", l, api.ErrName)
				continue
			}
			b, code := Write("X", l)
			if code != 0 {
				t.Errorf("Write of the file %q: %d", file, code)
			}
			back(t, "X", l, b)
		}
	}
}

func TestTypes(t *testing.T) {
	for _, kind := range []string{"t", "t/u", "text/plain; charset=utf-8", "no type at all", ";;", ":", "\xff", "a\tb", "\"", "\\", "Content-Type: t", "T/U", strings.Repeat("t", api.MaxLine-len("Content-Type: "))} {
		writes(t, "X", one(api.Part{Name: "n", Type: kind}), form("X", named+"n"+typed+kind+"\r\n\r\n"))
		writes(t, "X", one(api.Part{Name: "n", File: "f", Type: kind, Bytes: []byte("b")}), form("X", named+"n"+filed+"f"+typed+kind+"\r\n\r\nb"))
	}
	for _, kind := range []string{" ", "\t", " t", "t ", "\tt", "t\t", " t ", "  \t", "\r", "\n", "t\r\n", "t\r\nX: y", "t\r\n\r\n--X--", "\x00", "t\x00", "t\x7fu", "\x1f"} {
		refuses(t, "X", one(api.Part{Name: "n", Type: kind}), api.ErrChar)
		refuses(t, "X", []api.Part{{Name: "n", Type: "t"}, {Name: "n", File: "f", Type: kind, Bytes: []byte("b")}}, api.ErrChar)
	}
	for n := range 256 {
		kind := string([]byte{'a', byte(n), 'b'})
		if n != '\t' && n < ' ' || n == 127 {
			refuses(t, "X", one(api.Part{Name: "n", Type: kind}), api.ErrChar)
		} else {
			writes(t, "X", one(api.Part{Name: "n", Type: kind}), form("X", named+"n"+typed+kind+"\r\n\r\n"))
		}
	}
}

func TestLongLines(t *testing.T) {
	n := strings.Repeat("n", api.MaxLine-len(named))
	writes(t, "X", one(api.Part{Name: n}), form("X", named+n+"\r\n\r\n"))
	refuses(t, "X", one(api.Part{Name: n + "n"}), api.ErrLong)
	refuses(t, "X", one(api.Part{Name: strings.Repeat(n, 99)}), api.ErrLong)
	refuses(t, "X", []api.Part{{Name: n}, {Name: n + "n", Type: "t", Bytes: []byte("b")}}, api.ErrLong)
	// Quotes, and what stands ahead of bytes in them, count.
	writes(t, "X", one(api.Part{Name: " " + n[3:]}), form("X", named+"\" "+n[3:]+"\"\r\n\r\n"))
	refuses(t, "X", one(api.Part{Name: " " + n[2:]}), api.ErrLong)
	writes(t, "X", one(api.Part{Name: "\"" + n[4:]}), form("X", named+"\"\\\""+n[4:]+"\"\r\n\r\n"))
	refuses(t, "X", one(api.Part{Name: "\"" + n[3:]}), api.ErrLong)
	// So does the file.
	file := strings.Repeat("f", api.MaxName)
	less := n[len(filed)+len(file):]
	writes(t, "X", one(api.Part{Name: less, File: file}), form("X", named+less+filed+file+"\r\n\r\n"))
	refuses(t, "X", one(api.Part{Name: less + "n", File: file}), api.ErrLong)
	refuses(t, "X", one(api.Part{Name: n, File: "f"}), api.ErrLong)
	kind := strings.Repeat("t", api.MaxLine-len("Content-Type: "))
	writes(t, "X", one(api.Part{Name: n, Type: kind}), form("X", named+n+typed+kind+"\r\n\r\n"))
	refuses(t, "X", one(api.Part{Name: "n", Type: kind + "t"}), api.ErrLong)
	// fields.Text tells it ahead of its ErrChar.
	refuses(t, "X", one(api.Part{Name: "n", Type: kind + " "}), api.ErrLong)
	refuses(t, "X", one(api.Part{Name: "n", Type: kind + "\x00"}), api.ErrLong)
	refuses(t, "X", one(api.Part{Name: n + "n", Type: " t"}), api.ErrLong)
}

// faults in the order in which they are told of one part; some of a kind can't
// stand beside each other.
var faults = []struct {
	set  func(p *api.Part)
	code int
}{
	{func(p *api.Part) { p.Bytes = []byte("b\r\n--X") }, api.ErrClash},
	{func(p *api.Part) { p.File = ".x" }, api.ErrName},
	{func(p *api.Part) { p.Name = "\r" }, api.ErrChar},
	{func(p *api.Part) { p.Name += strings.Repeat("n", api.MaxLine) }, api.ErrLong},
	{func(p *api.Part) { p.Type = strings.Repeat("t", api.MaxLine) }, api.ErrLong},
	{func(p *api.Part) { p.Type += "\t" }, api.ErrChar},
}

// broken: a part with the faults of these bits, and the code of the first.
func broken(bits int) (api.Part, int) {
	p := api.Part{Name: "n", File: "f", Type: "t", Bytes: []byte("b")}
	first := 0
	for i, f := range faults {
		if bits>>i&1 == 0 {
			continue
		}
		f.set(&p)
		if first == 0 {
			first = f.code
		}
	}
	return p, first
}

func TestOrderOfCodes(t *testing.T) {
	for a := 1; a < 1<<len(faults); a++ {
		p, code := broken(a)
		refuses(t, "X", one(p), code)
		refuses(t, "X", append(make([]api.Part, api.MaxParts-1), p), code)
		refuses(t, "X", append(make([]api.Part, api.MaxParts), p), api.ErrMany)
		refuses(t, " X", one(p), api.ErrForm)
		// Of two parts the first one tells its code.
		for b := range 1 << len(faults) {
			q, _ := broken(b)
			refuses(t, "X", []api.Part{p, q}, code)
			refuses(t, "X", []api.Part{{Name: "n"}, p, {Bytes: []byte("b")}, q}, code)
		}
	}
	refuses(t, " X", make([]api.Part, api.MaxParts+1), api.ErrForm)
}

// plain writes a form as the chapter tells it, one point behind the other.
func plain(boundary string, l []api.Part) (string, int) {
	if !forms.Mark(boundary) {
		return "", api.ErrForm
	}
	if len(l) > 12 {
		return "", api.ErrMany
	}
	s := ""
	for _, p := range l {
		if strings.Contains("\r\n"+string(p.Bytes), "\r\n--"+boundary) {
			return "", api.ErrClash
		}
		m := api.Media{Word: "form-data", Params: []api.Param{{Name: "name", Value: p.Name}}}
		if p.File != "" {
			if forms.Safe(p.File) != p.File {
				return "", api.ErrName
			}
			m.Params = append(m.Params, api.Param{Name: "filename", Value: p.File})
		}
		value, code := params.Text(m)
		if code != 0 {
			return "", code
		}
		line, code := fields.Text(api.Field{Name: "Content-Disposition", Value: value})
		if code != 0 {
			return "", code
		}
		s += "--" + boundary + "\r\n" + line + "\r\n"
		if p.Type != "" {
			line, code = fields.Text(api.Field{Name: "Content-Type", Value: p.Type})
			if code != 0 {
				return "", code
			}
			s += line + "\r\n"
		}
		s += "\r\n" + string(p.Bytes) + "\r\n"
	}
	return s + "--" + boundary + "--\r\n", 0
}

func TestAgainstThePlainReading(t *testing.T) {
	var parts []api.Part
	for _, name := range []string{"", "n", "a b", "\"\\", "\x00", "\r\n--X", strings.Repeat("n", api.MaxLine)} {
		for _, file := range []string{"", "f", "a b", "../.x", ":"} {
			for _, kind := range []string{"", "t/u", "t ", "\n", strings.Repeat("t", api.MaxLine)} {
				for _, body := range []string{"", "b", "\r\n", "--X", "\r\n--", "\r\n--X--"} {
					parts = append(parts, api.Part{Name: name, File: file, Type: kind, Bytes: []byte(body)})
				}
			}
		}
	}
	for _, boundary := range []string{"X", "Y Z", "-", "", "\tX"} {
		for i, p := range parts {
			for _, l := range [][]api.Part{{p}, {p, parts[(i*7+1)%len(parts)]}, {parts[(i*11+5)%len(parts)], {Name: "n"}, p}} {
				b, code := Write(boundary, l)
				if want, told := plain(boundary, l); string(b) != want || code != told {
					t.Errorf("Write by %q of %s: %q, %d, want %q, %d", boundary, short(show(l)), b, code, want, told)
				}
				if code == 0 {
					back(t, boundary, l, b)
				}
			}
		}
	}
}

// What was read is written again as it was.
func TestWriteOfWhatWasRead(t *testing.T) {
	text := "pre\r\n--X\r\nX: y\r\ncontent-type: t\r\nContent-Disposition: FORM-DATA; filename=\"../a b\"; name=\"n\"\r\n\r\nb\r\n--X \r\nContent-Disposition: form-data; name=m; filename=\"\"\r\n\r\n--X--tail"
	l, code := forms.Read("X", []byte(text))
	if code != 0 {
		t.Fatalf("%q: %d", text, code)
	}
	want := form("X", named+"n"+filed+`"a b"`+typed+"t\r\n\r\nb", named+"m"+filed+"file\r\n\r\n")
	writes(t, "X", l, want)
	again, _ := forms.Read("X", []byte(want))
	writes(t, "X", again, want)
}

// A form within a form: the boundaries need only be apart.
func TestFormInAForm(t *testing.T) {
	inner, code := Write("Y", []api.Part{{Name: "n", File: "f", Type: "t", Bytes: []byte("b")}, {Name: "m"}})
	if code != 0 {
		t.Fatal(code)
	}
	writes(t, "X", one(api.Part{Name: "n", Type: "multipart/mixed; boundary=Y", Bytes: inner}),
		form("X", named+"n"+typed+"multipart/mixed; boundary=Y\r\n\r\n"+string(inner)))
	refuses(t, "Y", one(api.Part{Name: "n", Bytes: inner}), api.ErrClash)
}

// Others read what is written, too.
func TestFormsThatOthersRead(t *testing.T) {
	l := []api.Part{{Name: "a b", Bytes: []byte("x\r\n--Y")}, {Name: "f\"\\", File: "n o.txt", Type: "t/u", Bytes: []byte("\x00\xff\r\n")}, {Name: "e", File: "f"}, {Name: "last", Bytes: []byte("--")}}
	b, code := Write("X-1", l)
	if code != 0 {
		t.Fatal(code)
	}
	r := multipart.NewReader(bytes.NewReader(b), "X-1")
	var got []api.Part
	for {
		p, err := r.NextPart()
		if err == io.EOF {
			break
		}
		if err != nil {
			t.Fatal(err)
		}
		body, err := io.ReadAll(p)
		if err != nil {
			t.Fatal(err)
		}
		got = append(got, api.Part{Name: p.FormName(), File: p.FileName(), Type: p.Header.Get("Content-Type"), Bytes: body})
	}
	if show(got) != show(l) {
		t.Errorf("%s, read by others: %s", show(l), show(got))
	}
}

// What is handed in stays as it is, also behind the lists' lengths, and is not
// kept.
func TestWriteLeavesWhatIsHandedIn(t *testing.T) {
	body := []byte("ab\r\n--X")
	l := []api.Part{{Name: "n", File: "f", Type: "t", Bytes: body[:2]}, {Name: "m", Bytes: body[2:4]}, {Name: "\x00"}}
	was := show(l)
	// Neither the mark behind the bytes nor the part behind the list counts.
	got, code := Write("X", l[:2])
	again, _ := Write("X", l[:2])
	if show(l) != was || string(body) != "ab\r\n--X" {
		t.Errorf("what was handed in became %s, %q", show(l), body)
	}
	if _, code := Write("X", l); code != api.ErrChar || show(l) != was {
		t.Errorf("what was refused became %s, %d", show(l), code)
	}
	clear(body)
	clear(l)
	clear(again[:cap(again)])
	want := form("X", named+"n"+filed+"f"+typed+"t\r\n\r\nab", named+"m\r\n\r\n\r\n")
	if string(got) != want || code != 0 {
		t.Errorf("Write shares memory: %q, %d, want %q", got, code, want)
	}
}

// The same bytes may stand in several parts.
func TestPartsThatShareBytes(t *testing.T) {
	body := []byte("abc")
	writes(t, "X", []api.Part{{Name: "n", Bytes: body}, {Name: "m", Bytes: body[1:]}, {Name: "o", Bytes: body[:1]}},
		form("X", named+"n\r\n\r\nabc", named+"m\r\n\r\nbc", named+"o\r\n\r\na"))
	if string(body) != "abc" {
		t.Errorf("what was handed in became %q", body)
	}
}

func TestMuch(t *testing.T) {
	body := bytes.Repeat([]byte("\r\n--"+strings.Repeat("x", api.MaxMark-1)), 1<<14)
	boundary := strings.Repeat("x", api.MaxMark)
	l := slices.Repeat(one(api.Part{Name: "n", Bytes: body}), api.MaxParts)
	b, code := Write(boundary, l)
	if code != 0 || len(b) < api.MaxParts*len(body) {
		t.Fatalf("Write of much: %d bytes, %d", len(b), code)
	}
	l[api.MaxParts-1].Bytes = append(bytes.Clone(body), 'x')
	refuses(t, boundary, l, api.ErrClash)
}
