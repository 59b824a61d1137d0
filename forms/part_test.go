package forms

import (
	"fmt"
	"slices"
	"strings"
	"testing"

	"lighterage/api"
	"lighterage/chars"
	"lighterage/fields"
	"lighterage/params"
)

// disposed: a field Content-Disposition, with others behind it.
func disposed(value string, others ...api.Field) []api.Field {
	return append([]api.Field{{Name: "Content-Disposition", Value: value}}, others...)
}

func typed(value string) api.Field { return api.Field{Name: "Content-Type", Value: value} }

func checkPart(t *testing.T, l []api.Field, name, file, kind string, code int) {
	t.Helper()
	before := slices.Clone(l)
	p, got := Part(l)
	want := api.Part{Name: name, File: file, Type: kind}
	if fmt.Sprintf("%q", []any{p.Name, p.File, p.Type, p.Bytes}) != fmt.Sprintf("%q", []any{want.Name, want.File, want.Type, want.Bytes}) || got != code {
		t.Errorf("Part of %q: %q, %d, want %q, %d", l, p, got, want, code)
	}
	if !slices.Equal(l, before) {
		t.Errorf("what was handed in became %q, it was %q", l, before)
	}
}

// part: a part is read of the fields.
func part(t *testing.T, l []api.Field, name, file, kind string) {
	t.Helper()
	checkPart(t, l, name, file, kind, 0)
}

// noPart: the fields have a code, and nothing else is told.
func noPart(t *testing.T, l []api.Field, code int) {
	t.Helper()
	checkPart(t, l, "", "", "", code)
}

func TestPartOfFields(t *testing.T) {
	part(t, disposed("form-data; name=n"), "n", "", "")
	part(t, disposed("  Form-DATA ;\tNAME=N ; x=y "), "N", "", "")
	part(t, disposed(`form-data; name="a \"b\" \\; c=d"`), `a "b" \; c=d`, "", "")
	part(t, disposed("form-data; name=n; filename=f.txt", api.Field{Name: "X", Value: "y"}, typed("text/plain")), "n", "f.txt", "text/plain")
}

func TestNamesOfFields(t *testing.T) {
	for _, name := range []string{"Content-Disposition", "content-disposition", "CONTENT-DISPOSITION", "cOnTeNt-dIsPoSiTiOn"} {
		for _, kind := range []string{"Content-Type", "content-type", "CONTENT-TYPE"} {
			l := []api.Field{{Name: kind, Value: "t"}, {Name: "X", Value: "y"}, {Name: name, Value: "form-data; name=n; filename=f"}}
			part(t, l, "n", "f", "t")
			noPart(t, append(l, disposed("form-data; name=n")...), api.ErrTwice)
			noPart(t, append(l, typed("t")), api.ErrTwice)
		}
	}
	noPart(t, []api.Field{{Name: "Content-Dispositio", Value: "form-data; name=n"}, {Name: "Content-Disposition ", Value: "form-data; name=n"}}, api.ErrNone)
	noPart(t, []api.Field{{Name: "Di\u017fposition", Value: "form-data; name=n"}}, api.ErrNone)
}

func TestNoDisposition(t *testing.T) {
	noPart(t, nil, api.ErrNone)
	noPart(t, []api.Field{}, api.ErrNone)
	noPart(t, []api.Field{{}}, api.ErrNone)
	noPart(t, []api.Field{typed("t")}, api.ErrNone)
	// It is named ahead of two types.
	noPart(t, []api.Field{typed("t"), typed("t")}, api.ErrNone)
}

func TestTwoDispositions(t *testing.T) {
	for _, first := range []string{"form-data; name=n", "", "x", "\x00", "form-data; name=\""} {
		for _, second := range []string{"form-data; name=n", "", "x", "\x00"} {
			noPart(t, disposed(first, disposed(second)...), api.ErrTwice)
			noPart(t, disposed(first, disposed(second, disposed(first)...)...), api.ErrTwice)
		}
	}
}

func TestDispositionThatIsNoValue(t *testing.T) {
	for value, code := range map[string]int{
		"": api.ErrForm, ";": api.ErrForm, "form-data;": api.ErrForm, "form-data; name": api.ErrForm, "form-data; name=": api.ErrForm, "form-data name=n": api.ErrForm,
		"form-data; name=n;": api.ErrForm, "form-data; name = n": api.ErrForm, "form-data; name=a b": api.ErrForm, "form-data; name=n; filename=a/b": api.ErrForm,
		"form-data; name=\"": api.ErrShort, "form-data; name=\"n\\": api.ErrShort, "form-data; name=n; filename=\"x\\\"": api.ErrShort,
		"form-data; name=n\x00": api.ErrChar, "form-data; name=\"\x7f\"": api.ErrChar, "form-data; name=\"\n": api.ErrChar,
		"form-data; name=n; name=n": api.ErrTwice, "form-data; name=n; NAME=m": api.ErrTwice, "form-data; filename=a; name=n; filename=a": api.ErrTwice,
		"form-data; filename*=a; filename*=b": api.ErrTwice, "x;a=1;b=2;c=3;d=4;e=5;f=6;g=7;h=8;i=9": api.ErrMany,
		// Named ahead of ErrKind and ErrName.
		"x;": api.ErrForm, "x; y=\"": api.ErrShort,
	} {
		if _, told := params.Parse(value); told != code {
			t.Errorf("params.Parse(%q): %d", value, told)
		}
		noPart(t, disposed(value), code)
		noPart(t, disposed(value, typed("t"), typed("t")), code)
	}
	part(t, disposed("form-data;a=1;b=2;c=3;d=4;e=5;f=6;g=7;name=8"), "8", "", "")
}

func TestAnotherWord(t *testing.T) {
	for _, word := range []string{"x", "attachment", "form-dat", "form-dataa", "form_data", "formdata", "form/data", "form-data/x", "multipart/form-data", "inline"} {
		noPart(t, disposed(word), api.ErrKind)
		noPart(t, disposed(word+"; name=n"), api.ErrKind)
		noPart(t, disposed(word+"; name=n; filename*=x", typed("t"), typed("t")), api.ErrKind)
	}
	for _, word := range []string{"form-data", "FORM-DATA", "Form-Data"} {
		part(t, disposed(word+"; name=n"), "n", "", "")
	}
}

func TestNoName(t *testing.T) {
	for _, rest := range []string{"", "; x=y", "; filename=name", "; names=n", "; nam=n", "; name*=n", "; filename=f; filename*=utf-8''f"} {
		noPart(t, disposed("form-data"+rest), api.ErrName)
		noPart(t, disposed("form-data"+rest, typed("t"), typed("t")), api.ErrName)
	}
	// It is named ahead of what is told of a filename*.
	noPart(t, disposed("form-data; filename*=x"), api.ErrName)
	// A name without bytes is a name, and one that looks like a file is no file.
	part(t, disposed(`form-data; name=""`), "", "", "")
	part(t, disposed(`form-data; name="../.x:y"`), "../.x:y", "", "")
	part(t, disposed("form-data; NaMe=\"\xff\t\""), "\xff\t", "", "")
}

func TestFile(t *testing.T) {
	for value, file := range map[string]string{
		"f": "f", `""`: "file", `"a b.txt"`: "a b.txt", `"../../etc/.x"`: "x", `"C:\\x\\y"`: "y", `"C:\x\y"`: "C_xy", `"..."`: "file", `"a/"`: "file", `"\"\""`: "__", "\"\t\"": "_",
		"\"\u00e9\"": "\u00e9", "utf-8''%41": "utf-8''%41", `"a:b"`: "a_b", strings.Repeat("x", api.MaxName+1): strings.Repeat("x", api.MaxName),
	} {
		part(t, disposed("form-data; name=n; filename="+value), "n", file, "")
		part(t, disposed("form-data; FileName="+value+"; name=n", typed("t")), "n", file, "t")
	}
	part(t, disposed("form-data; name=n; filenam=f; filenames=f; file=f"), "n", "", "")
}

func TestCodedFile(t *testing.T) {
	for value, file := range map[string]string{
		"utf-8''f": "f", "UTF-8''f": "f", "Utf-8''f": "f", "uTF-8''f": "f", "utf-8''": "file", `"utf-8''a b"`: "a b", `"UTF-8''a\"b"`: "a_b",
		"utf-8''%41": "A", "utf-8''%2e%2Fa%20b": "a b", "utf-8''%2E%2e%2f": "file", "utf-8''..%5cx%5C.y": "y", "utf-8''%c3%A9": "\u00e9", "utf-8''%FF%ff%fF": "\xff\xff\xff",
		"utf-8''%00%0a%0D%7F%09": "_____", "utf-8''%25": "%", "utf-8''%2541": "%41", "utf-8''a%22%3A%3a": "a___", "utf-8''''": "''", "utf-8'''en'x": "'en'x",
		"utf-8''utf-8''f": "utf-8''f", "utf-8''" + strings.Repeat("%2e", 30) + strings.Repeat("%41", api.MaxName+1): strings.Repeat("A", api.MaxName),
		`"utf-8''../../etc/.x"`: "x", "utf-8''+": "+",
	} {
		part(t, disposed("form-data; name=n; filename*="+value), "n", file, "")
		part(t, disposed("form-data; FILENAME*="+value+"; NAME=n", typed("t")), "n", file, "t")
		// It goes ahead of a filename, wherever that stands, and whatever it is.
		for _, plain := range []string{"x", `""`, `"../y"`, "utf-8''z"} {
			part(t, disposed("form-data; name=n; filename="+plain+"; filename*="+value), "n", file, "")
			part(t, disposed("form-data; filename*="+value+"; name=n; filename="+plain), "n", file, "")
		}
	}
	for n := range 256 {
		for _, form := range []string{"%02x", "%02X"} {
			c := byte(n)
			part(t, disposed("form-data; name=n; filename*=utf-8''a%"+fmt.Sprintf(form, n)+"b"), "n", plainSafe("a"+string([]byte{c})+"b"), "")
		}
	}
}

func TestCodedFileThatIsNone(t *testing.T) {
	for _, value := range []string{
		"f", `""`, "utf-8", "utf-8'", "utf-8'f", "utf-8'en'f", "utf8''f", "utf-16''f", "iso-8859-1''f", "''f", "xutf-8''f", `" utf-8''f"`, "u", "utf-8f''", "utf-7''f",
		"utf-8''%", "utf-8''a%", "utf-8''%4", "utf-8''%4g", "utf-8''%g4", "utf-8''%%41", "utf-8''%4%41", `"utf-8''% 41"`, `"utf-8''%+1"`, "utf-8''%-1", "utf-8''%41%",
		"utf-8''%41%4", "utf-8''%xx", "utf-8''%0x41", "%75tf-8''f", "utf-8%27%27f", `"utf-8''%4 "`, "utf-8''%4'", `"utf-8''%4/"`, `"utf-8''%4:"`, "utf-8''%4`", "utf-8''%G0", "UTF-8''%1",
	} {
		noPart(t, disposed("form-data; name=n; filename*="+value), api.ErrForm)
		// A filename beside it does not help, and two types are named behind it.
		noPart(t, disposed("form-data; name=n; filename=x; filename*="+value), api.ErrForm)
		noPart(t, disposed("form-data; filename*="+value+"; name=n; filename=x", typed("t"), typed("t")), api.ErrForm)
	}
}

func TestTypes(t *testing.T) {
	for _, kind := range []string{"", "t", "text/plain; charset=utf-8", "no type at all", ";;", "\x00\xff", " untrimmed "} {
		part(t, disposed("form-data; name=n", typed(kind)), "n", "", kind)
		part(t, append([]api.Field{typed(kind)}, disposed("form-data; name=n; filename=f")...), "n", "f", kind)
		noPart(t, disposed("form-data; name=n", typed(kind), typed(kind)), api.ErrTwice)
		noPart(t, disposed("form-data; name=n", typed(kind), typed("u"), typed("v")), api.ErrTwice)
	}
	part(t, disposed("form-data; name=n", api.Field{Name: "Content-Types", Value: "t"}, api.Field{Name: "Type", Value: "t"}), "n", "", "")
}

// Each code is told ahead of those that are named behind it.
func TestOrderOfCodesOfPart(t *testing.T) {
	kinds := []api.Field{typed("t"), typed("u")}
	for _, c := range []struct {
		value string
		code  int
	}{
		{"x; filename*=y; filename*=z", api.ErrTwice}, {"x; filename*=y", api.ErrKind}, {"form-data; filename*=y", api.ErrName},
		{"form-data; filename*=y; name=n", api.ErrForm}, {"form-data; filename*=utf-8''y; name=n", api.ErrTwice},
	} {
		noPart(t, disposed(c.value, kinds...), c.code)
	}
	noPart(t, kinds, api.ErrNone)
	noPart(t, disposed("x; filename*=y", disposed("\x00", kinds...)...), api.ErrTwice)
}

// How many fields a part has is not for Part to say.
func TestManyFieldsOfPart(t *testing.T) {
	var l []api.Field
	for n := range 100 * api.MaxFields {
		l = append(l, api.Field{Name: fmt.Sprint("n", n)})
	}
	part(t, append(l, disposed("form-data; name=n", typed("t"))...), "n", "", "t")
}

// plainSafe reads a name as the chapter tells it.
func plainSafe(s string) string {
	for strings.ContainsAny(s, `/\`) {
		s = s[strings.IndexAny(s, `/\`)+1:]
	}
	out := ""
	for _, c := range []byte(s) {
		if c < 32 || c == 127 || c == '"' || c == ':' {
			c = '_'
		}
		if out != "" || c != '.' {
			out += string([]byte{c})
		}
	}
	if len(out) > 40 {
		out = out[:40]
	}
	if out == "" {
		return "file"
	}
	return out
}

func checkSafe(t *testing.T, s, want string) {
	t.Helper()
	got := Safe(s)
	if got != want {
		t.Errorf("Safe(%q): %q, want %q", s, got, want)
	}
	if again := Safe(got); again != got {
		t.Errorf("Safe of %q, which is Safe of %q: %q", got, s, again)
	}
	// A name leads nowhere else.
	if got == "" || len(got) > api.MaxName || got[0] == '.' || strings.ContainsAny(got, "/\\\t\":") || !chars.IsVisible(got) {
		t.Errorf("Safe(%q): %q is not safe", s, got)
	}
}

func TestSafe(t *testing.T) {
	x := strings.Repeat("x", api.MaxName)
	for s, want := range map[string]string{
		"": "file", "x": "x", "a.txt": "a.txt", "a b": "a b", " ": " ", " .x": " .x", "x ": "x ", "file": "file", "_": "_", "-": "-",
		// Strokes of either kind.
		"/": "file", "\\": "file", "a/": "file", "a\\": "file", "/a": "a", "\\a": "a", "a/b": "b", "a\\b": "b", "a/b\\c": "c", "a\\b/c": "c", "//a//b": "b", "a/b/": "file",
		"/etc/passwd": "passwd", "C:\\x\\y.z": "y.z", "../../etc/.x": "x", "..\\..\\.x": "x", "a:b/c": "c", "\x00/c": "c", "a/b\\": "file", "\\/": "file", "/\\": "file",
		// Dots at the beginning.
		".": "file", "..": "file", "...": "file", ".x": "x", "..x.": "x.", "...x..y...": "x..y...", "x.": "x.", "x..y": "x..y", "./.": "file", "a/..": "file", "a/...b": "b", ". .": " .",
		// Bytes that become _.
		"\t": "_", "a\tb": "a_b", "\"": "_", ":": "_", "a\"b:c": "a_b_c", "\x00": "_", "\x1f\x7f": "__", "a\r\nb": "a__b", ".\t": "_", "\t.": "_.", ":.x": "_.x", ".\x00.": "_.", "a/b\\c:d\"\t": "c_d__",
		"\xff": "\xff", "\x80": "\x80", "\u00e9\u20ac": "\u00e9\u20ac", "%2F": "%2F", "a'b": "a'b", "a;b|c*?<>": "a;b|c*?<>", "~": "~",
		// MaxName bytes, and one more.
		x: x, x[1:]: x[1:], x + "y": x, x + ".": x, "." + x: x, "..." + x + "y": x, "a/" + x + "y": x, x + "/y": "y", x + "/": "file", "y" + x: "y" + x[1:],
		strings.Repeat(".", 100): "file", strings.Repeat(".", 100) + "x": "x", strings.Repeat("/", 100) + "x": "x", strings.Repeat("\t", 100): strings.Repeat("_", api.MaxName),
		x[1:] + "\u00e9": x[1:] + "\xc3", x[1:] + ":" + "z": x[1:] + "_", strings.Repeat("x", 1000): x, x[1:] + "..": x[1:] + ".",
	} {
		checkSafe(t, s, want)
		if got := plainSafe(s); got != want {
			t.Errorf("plainSafe(%q): %q, want %q", short(s), short(got), want)
		}
	}
}

func TestSafeOfEachByte(t *testing.T) {
	for n := range 256 {
		c := string([]byte{byte(n)})
		for _, s := range []string{c, "a" + c + "b", c + "b", "a" + c, "." + c, c + ".", c + c, "a/" + c + "b", "a/.." + c} {
			checkSafe(t, s, plainSafe(s))
		}
	}
	for _, s := range texts([]string{"a", ".", "/", "\\", "\t", ":", "\xff", strings.Repeat("x", 39)}, 5) {
		checkSafe(t, s, plainSafe(s))
	}
}

// A name leads nowhere else, whatever the fields are.
func TestFileLeadsNowhereElse(t *testing.T) {
	for _, s := range texts([]string{".", "/", "a", "\\\\", "%2f", "%5C", "%2e", "utf-8''", "%"}, 5) {
		for _, name := range []string{"filename", "filename*"} {
			p, code := Part(disposed("form-data; name=n; " + name + "=\"" + s + "\""))
			if code != 0 {
				continue
			}
			if p.File == "" || p.File[0] == '.' || strings.ContainsAny(p.File, `/\`) {
				t.Errorf("%s of %q: %q", name, s, p.File)
			}
		}
	}
}

// What is told of a head in a stream is what Part tells of its fields.
func TestPartOfAStream(t *testing.T) {
	for _, head := range []string{
		"Content-Disposition: form-data; name=n; filename=\"a/b\"\r\nContent-Type: t\r\n", "CONTENT-TYPE:\r\ncontent-disposition:form-data;name=\"\"\r\n",
		"Content-Disposition: form-data; name=n; filename=x; filename*=UTF-8''%2e%2Fa%20b\r\nX: y\r\n",
	} {
		var l []api.Field
		for line := range strings.SplitSeq(strings.TrimSuffix(head, "\r\n"), "\r\n") {
			f, code := fields.Parse(line)
			if code != 0 {
				t.Fatalf("%q: %d", line, code)
			}
			l = append(l, f)
		}
		p, code := Part(l)
		if code != 0 {
			t.Errorf("Part of %q: %d", l, code)
		}
		over(t, "--X\r\n"+head+"\r\nb\r\n--X--", partText(p.Name, p.File, p.Type)+bodyText("b")+overText)
	}
}
