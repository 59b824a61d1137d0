package forms

import (
	"bytes"
	"fmt"
	"mime/multipart"
	"reflect"
	"slices"
	"strings"
	"testing"

	"lighterage/api"
	"lighterage/fields"
	"lighterage/lines"
	"lighterage/request"
)

// outcome: what was told of all that came, and what Close tells then.
type outcome struct {
	events string
	code   int
}

func partText(name, file, kind string) string { return fmt.Sprintf("part %q %q %q|", name, file, kind) }

func bodyText(s string) string { return fmt.Sprintf("body %q|", s) }

func failText(code int) string { return fmt.Sprintf("fail %d|", code) }

const (
	overText = "over|"
	endText  = "end|"
)

// show: events as a text. What no event of a kind has is told, too, if one has
// it.
func show(l []api.Event) string {
	var b strings.Builder
	for _, e := range l {
		switch e.Kind {
		case api.EPart:
			b.WriteString(partText(e.Part.Name, e.Part.File, e.Part.Type))
			e.Part.Name, e.Part.File, e.Part.Type = "", "", ""
		case api.EBody:
			b.WriteString(bodyText(string(e.Bytes)))
			e.Bytes = nil
		case api.EOver:
			b.WriteString(overText)
		case api.EEnd:
			b.WriteString(endText)
		case api.EFail:
			b.WriteString(failText(e.Code))
			e.Code = 0
		}
		if !reflect.DeepEqual(e, api.Event{Kind: e.Kind}) {
			fmt.Fprintf(&b, "and more: %v|", e)
		}
	}
	return b.String()
}

// showParts: what the events of whole parts would tell of them.
func showParts(l []api.Part) string {
	s := ""
	for _, p := range l {
		s += partText(p.Name, p.File, p.Type)
		if len(p.Bytes) > 0 {
			s += bodyText(string(p.Bytes))
		}
		s += overText
	}
	return s
}

func short(s string) string {
	if len(s) > 400 {
		return s[:200] + " .. " + s[len(s)-200:]
	}
	return s
}

// begin: a reader of a form with a boundary that must be one.
func begin(t *testing.T, boundary string) *Form {
	t.Helper()
	f, code := New(boundary)
	if f == nil || code != 0 {
		t.Fatalf("New of %q: %v, %d", boundary, f, code)
	}
	return f
}

// fed: the pieces fed one behind the other, by request.Join.
func fed(t *testing.T, boundary string, pieces ...[]byte) outcome {
	t.Helper()
	f := begin(t, boundary)
	var all []api.Event
	for _, p := range pieces {
		l := f.Feed(p)
		if len(l) != len(request.Join(l)) {
			t.Errorf("%q fed: %s, which Join changes", p, short(show(l)))
		}
		all = append(all, l...)
	}
	code := f.Close()
	if again := f.Close(); again != code {
		t.Errorf("Close: %d, and then %d", code, again)
	}
	return outcome{show(request.Join(all)), code}
}

func whole(t *testing.T, boundary, in string) outcome { return fed(t, boundary, []byte(in)) }

func byPieces(t *testing.T, boundary, in string, size int) outcome {
	return fed(t, boundary, slices.Collect(slices.Chunk([]byte(in), size))...)
}

// checkBy feeds in as a whole, byte by byte, and cut at each place: how bytes
// fall does not matter. Long ones are cut at fewer places. It is read, too.
func checkBy(t *testing.T, boundary, in string, want outcome) {
	t.Helper()
	differ := func(got outcome, how ...any) bool {
		t.Helper()
		if got != want {
			t.Errorf("%s, fed %s:\n%s %d, want\n%s %d", short(fmt.Sprintf("%q", in)), fmt.Sprint(how...),
				short(got.events), got.code, short(want.events), want.code)
		}
		return got != want
	}
	if differ(whole(t, boundary, in), "as a whole") || differ(byPieces(t, boundary, in, 1), "byte by byte") || differ(byPieces(t, boundary, in, 7), "by sevens") {
		return
	}
	checkRead(t, boundary, in, want)
	if len(in) > 300 {
		return
	}
	for at := range len(in) + 1 {
		if differ(fed(t, boundary, []byte(in[:at]), nil, []byte(in[at:])), "cut at ", at) {
			return
		}
	}
}

// checkRead: the parts are what the events tell, if there is no code.
func checkRead(t *testing.T, boundary, in string, want outcome) {
	t.Helper()
	l, code := Read(boundary, []byte(in))
	told := ""
	if want.code == 0 {
		told = strings.TrimSuffix(want.events, endText)
	}
	if showParts(l) != told || code != want.code {
		t.Errorf("Read of %s: %s, %d, want %s, %d", short(fmt.Sprintf("%q", in)), short(showParts(l)), code, short(told), want.code)
	}
}

func check(t *testing.T, in string, want outcome) {
	t.Helper()
	checkBy(t, "X", in, want)
}

// swift is check without cuts.
func swift(t *testing.T, in string, want outcome) {
	t.Helper()
	for _, got := range []outcome{whole(t, "X", in), byPieces(t, "X", in, 1)} {
		if got != want {
			t.Errorf("%q:\n%s %d, want\n%s %d", in, got.events, got.code, want.events, want.code)
		}
	}
	checkRead(t, "X", in, want)
}

// open: the form is not over, and did not fail.
func open(t *testing.T, in, events string) {
	t.Helper()
	check(t, in, outcome{events, api.ErrShort})
}

// over: the form is over, whatever comes behind it.
func over(t *testing.T, in, events string) {
	t.Helper()
	for _, behind := range []string{"", "-", "\r\n", "\r\n--X", "\r\n--X--", "\x00\n\xff", "\r\n--X\r\n" + aHead + "b\r\n--X--"} {
		check(t, in+behind, outcome{events + endText, 0})
	}
}

// fails: the last byte of in brings the code, and nothing is read behind it.
func fails(t *testing.T, in, events string, code int) {
	t.Helper()
	want := outcome{events + failText(code), code}
	check(t, in, want)
	if got := whole(t, "X", in[:len(in)-1]); got != (outcome{events, api.ErrShort}) {
		t.Errorf("%s, without its last byte: %s, %d", short(fmt.Sprintf("%q", in)), short(got.events), got.code)
	}
	for _, behind := range []string{"\r\n", "--", "\r\n--X--", "\n\x00a", "\r\n--X\r\n" + aHead + "b\r\n--X--"} {
		if got := whole(t, "X", in+behind); got != want {
			t.Errorf("%s, and %q behind it: %s, %d", short(fmt.Sprintf("%q", in)), behind, short(got.events), got.code)
		}
	}
	f := begin(t, "X")
	f.Feed([]byte(in))
	for n := range 256 {
		if l := f.Feed([]byte{byte(n)}); len(l) > 0 || f.Close() != code {
			t.Errorf("%s, and %q behind it: %v, %d", short(fmt.Sprintf("%q", in)), byte(n), l, f.Close())
		}
	}
}

const (
	named = "Content-Disposition: form-data; name=a\r\n"
	// aHead is a part's head, with its empty line.
	aHead = named + "\r\n"
	// headText is what it is read as.
	headText = `part "a" "" ""|`
)

// one: what a part of the name a with these bytes is told as.
func one(body string) string {
	if body == "" {
		return headText + overText
	}
	return headText + bodyText(body) + overText
}

func TestForms(t *testing.T) {
	over(t, "--X\r\n"+aHead+"b\r\n--X--", one("b"))
	over(t, "--X\r\n"+aHead+"b\r\n--X\r\n"+aHead+"c\r\n--X--", one("b")+one("c"))
	over(t, "pre\r\n--X \t\r\ncontent-disposition:Form-Data; NAME=\"f \\\"g\"; filename=\"../.y\"\r\nX: y\r\nCONTENT-TYPE: text/plain; a=b \r\n\r\n\x00\r\n\xff\r\n--X--tail",
		partText("f \"g", "y", "text/plain; a=b")+bodyText("\x00\r\n\xff")+overText)
	over(t, "--X--", "")
	over(t, "pre\r\n--X--", "")
}

// The document's example.
func TestFileNameOfTheDocument(t *testing.T) {
	over(t, "--X\r\nContent-Disposition: form-data; name=n; filename=\"../../etc/.x\"\r\n\r\nb\r\n--X--", partText("n", "x", "")+bodyText("b")+overText)
}

func TestNothing(t *testing.T) {
	open(t, "", "")
	f := begin(t, "X")
	for range 3 {
		if l := append(f.Feed(nil), f.Feed([]byte{})...); len(l) > 0 || f.Close() != api.ErrShort {
			t.Errorf("fed nothing: %v", l)
		}
	}
	if got := show(f.Feed([]byte("--X--"))); got != endText || f.Close() != 0 {
		t.Errorf("behind nothing: %s, %d", got, f.Close())
	}
	if l, code := Read("X", nil); len(l) > 0 || code != api.ErrShort {
		t.Errorf("Read of nothing: %v, %d", l, code)
	}
}

func TestBoundaries(t *testing.T) {
	for s, want := range map[string]bool{
		"": false, "X": true, "0": true, "-": true, "--": true, "\"": true, "\xff": true, "a b": true, "a\tb": true, "a \t b": true, ":\\": true,
		strings.Repeat("x", api.MaxMark): true, strings.Repeat("x", api.MaxMark+1): false, strings.Repeat("x", 1000): false,
		"a" + strings.Repeat(" ", api.MaxMark-2) + "b": true, "a" + strings.Repeat(" ", api.MaxMark-1) + "b": false,
		" ": false, "\t": false, " a": false, "a ": false, "\ta": false, "a\t": false, " a b\t": false, " " + strings.Repeat("x", api.MaxMark-1): false,
		"\r": false, "\n": false, "a\r\n": false, "a\rb": false, "a\nb": false, "\x00": false, "a\x00b": false, "\x7f": false, "a\x1fb": false, "\u00e9": true,
	} {
		if got := Mark(s); got != want {
			t.Errorf("Mark(%q): %v", s, got)
		}
		if !want {
			checkNoBoundary(t, s)
			continue
		}
		checkBy(t, s, "--"+s+"\r\n"+aHead+"b\r\n--"+s+"--", outcome{one("b") + endText, 0})
		checkBy(t, s, "a\r\n--"+s+"\r\n"+aHead+"\r\n--"+s[:len(s)-1]+"\x00\r\n--"+s+"--", outcome{one("\r\n--"+s[:len(s)-1]+"\x00") + endText, 0})
	}
	for n := range 256 {
		c := byte(n)
		visible := c == '\t' || c >= 32 && c != 127
		if got := Mark(string([]byte{'a', c, 'b'})); got != visible {
			t.Errorf("Mark with %q within: %v", c, got)
		}
		if got := Mark(string([]byte{c})); got != (visible && c != '\t' && c != ' ') {
			t.Errorf("Mark of %q alone: %v", c, got)
		}
	}
}

func checkNoBoundary(t *testing.T, s string) {
	t.Helper()
	if f, code := New(s); f != nil || code != api.ErrForm {
		t.Errorf("New(%q): %v, %d", s, f, code)
	}
	// The boundary's code comes ahead of what the bytes would have.
	for _, in := range []string{"", "--" + s + "--", "--" + s + "?"} {
		if l, code := Read(s, []byte(in)); len(l) > 0 || code != api.ErrForm {
			t.Errorf("Read by %q of %q: %v, %d", s, in, l, code)
		}
	}
}

func TestBytesAheadOfTheFirstMark(t *testing.T) {
	for _, ahead := range []string{
		"\r\n", "\r\n\r\n", "pre\r\n", "\r\r\n", "-\r\n", "--\r\n", "--Y\r\n", "-X\r\n", "X\r\n", " --X\r\n", "\n--X\r\n", "\r--X\r\n", "---X\r\n", "a--X--\r\n",
		"\r\n--\r\n", "\r\n-\r\n", "\r\n--\r\n--\r\n", "\r\r\n-\r\n", "\r\n\n--X\r\n", "\n\r\n", "\x00\x01\xff\r\n", "--x\r\n", aHead + "\r\n", strings.Repeat("x", 250) + "\r\n",
		strings.Repeat("\r\n--", 30) + "\r\n", strings.Repeat("\r", 30) + "\n",
	} {
		over(t, ahead+"--X--", "")
		over(t, ahead+"--X\r\n"+aHead+"b\r\n--X--", one("b"))
		fails(t, ahead+"--X?", "", api.ErrForm)
		for n := range len(ahead) {
			open(t, ahead[:n], "")
		}
		open(t, ahead+"--", "")
		open(t, ahead+"--X", "")
	}
	// The second CR ends no piece of a mark, the LF alone begins none.
	open(t, "\r\r--X--", "")
	open(t, "\n--X--", "")
	open(t, "-\n--X--", "")
}

func TestBehindAMark(t *testing.T) {
	for _, place := range []struct{ ahead, events string }{
		{"--X", ""},
		{"\r\n--X", ""},
		{"pre\r\n--X", ""},
		{"--X\r\n" + aHead + "--X", one("")},
		{"--X\r\n" + aHead + "b\r\n--X", one("b")},
		{"--X\r\n" + aHead + "b\r\n--X\r\n" + aHead + "c\r\n--X", one("b") + one("c")},
	} {
		open(t, place.ahead, place.events)
		over(t, place.ahead+"--", place.events)
		open(t, place.ahead+"-", place.events)
		for _, blanks := range []string{"", " ", "\t", " \t\t ", strings.Repeat(" ", api.MaxLine+50)} {
			open(t, place.ahead+blanks, place.events)
			open(t, place.ahead+blanks+"\r", place.events)
			open(t, place.ahead+blanks+"\r\n", place.events)
			over(t, place.ahead+blanks+"\r\n"+aHead+"d\r\n--X--", place.events+one("d"))
			for n := range 256 {
				c := string([]byte{byte(n)})
				if !strings.Contains(" \t\r", c) && (blanks != "" || c != "-") {
					swift(t, place.ahead+blanks+c, outcome{place.events + failText(api.ErrForm), api.ErrForm})
				}
				if c != "\n" {
					swift(t, place.ahead+blanks+"\r"+c, outcome{place.events + failText(api.ErrLine), api.ErrLine})
				}
				if blanks == "" && c != "-" {
					swift(t, place.ahead+"-"+c, outcome{place.events + failText(api.ErrForm), api.ErrForm})
				}
			}
			fails(t, place.ahead+blanks+"x", place.events, api.ErrForm)
			fails(t, place.ahead+blanks+"\n", place.events, api.ErrForm)
			fails(t, place.ahead+blanks+"\r\r", place.events, api.ErrLine)
			fails(t, place.ahead+blanks+"\r-", place.events, api.ErrLine)
		}
		fails(t, place.ahead+" -", place.events, api.ErrForm)
		fails(t, place.ahead+"-x", place.events, api.ErrForm)
		fails(t, place.ahead+"- ", place.events, api.ErrForm)
		fails(t, place.ahead+"-\r", place.events, api.ErrForm)
	}
}

// list: n fields, one a line.
func list(n int) string {
	s := ""
	for i := range n {
		s += fmt.Sprintf("Name-%d: value %d\r\n", i, i)
	}
	return s
}

// places: what stands ahead of a part's head, and the events so far.
var places = []struct{ ahead, events string }{
	{"--X\r\n", ""},
	{"pre\r\n--X \t\r\n", ""},
	{"--X\r\n" + aHead + "b\r\n--X\r\n", headText + bodyText("b") + overText},
	{"--X\r\n" + aHead + "--X\r\n", headText + overText},
}

func TestManyFields(t *testing.T) {
	for _, p := range places {
		fails(t, p.ahead+"\r\n", p.events, api.ErrNone)
		for n := range api.MaxFields {
			open(t, p.ahead+list(n)+named, p.events)
			over(t, p.ahead+list(n)+aHead+"c\r\n--X--", p.events+one("c"))
		}
		full := p.ahead + list(api.MaxFields-1) + named
		over(t, full+"\r\n\r\n--X\r\n"+list(api.MaxFields-1)+aHead+"--X--", p.events+one("")+one(""))
		open(t, full+"a: b\r", p.events)
		fails(t, full+"a: b\r\n", p.events, api.ErrMany)
		fails(t, p.ahead+strings.Repeat("a:\r\n", api.MaxFields+1), p.events, api.ErrMany)
		fails(t, p.ahead+list(api.MaxFields)+named, p.events, api.ErrMany)
		fails(t, p.ahead+list(api.MaxFields)+"\r\n", p.events, api.ErrNone)
		// It is named ahead of what fields.Parse tells, and behind what lines do.
		for _, line := range []string{"x", ":", strings.Repeat("n", api.MaxName+1) + ":", " ", "--X--"} {
			fails(t, full+line+"\r\n", p.events, api.ErrMany)
		}
		fails(t, full+"\n", p.events, api.ErrLine)
		fails(t, full+"x\x00", p.events, api.ErrChar)
	}
}

func TestLineThatIsNoField(t *testing.T) {
	for line, code := range map[string]int{
		"x": api.ErrForm, " ": api.ErrForm, "\t": api.ErrForm, "--X": api.ErrForm, "--X--": api.ErrForm, "a b": api.ErrForm, " x": api.ErrForm,
		":": api.ErrName, ":b": api.ErrName, "a :b": api.ErrName, " a:b": api.ErrName, "a b:c": api.ErrName, "\xff:b": api.ErrName,
		"Content-Disposition : form-data; name=a": api.ErrName, strings.Repeat("n", api.MaxName+1) + ":": api.ErrLong,
	} {
		for _, p := range places {
			for _, ahead := range []string{"", named, list(2) + named, list(api.MaxFields - 1)} {
				fails(t, p.ahead+ahead+line+"\r\n", p.events, code)
			}
		}
	}
	for _, line := range []string{"a: b: c", "a:", "0: ", strings.Repeat("n", api.MaxName) + ":", "a: \xff", "a:x\ty", "a:" + strings.Repeat("v", api.MaxLine-2)} {
		over(t, "--X\r\n"+line+"\r\n"+named+line+"\r\n\r\nb\r\n--X--", one("b"))
	}
}

func TestCodesOfLines(t *testing.T) {
	full := strings.Repeat("1", api.MaxLine)
	for _, p := range places {
		for _, ahead := range []string{"", named, named + "a: b\r\n", list(api.MaxFields-1) + named} {
			ahead = p.ahead + ahead
			open(t, ahead+full, p.events)
			open(t, ahead+full+"\r", p.events)
			fails(t, ahead+full+"1", p.events, api.ErrLong)
			for _, line := range []string{"", "1", "a: b", "--X--", full} {
				fails(t, ahead+line+"\n", p.events, api.ErrLine)
				fails(t, ahead+line+"\r\r", p.events, api.ErrLine)
				fails(t, ahead+line+"\r-", p.events, api.ErrLine)
				fails(t, ahead+line+"\r\x00", p.events, api.ErrLine)
				for _, c := range "\x00\x01\x08\x0b\x1f\x7f" {
					fails(t, ahead+line+string(c), p.events, api.ErrChar)
				}
			}
		}
	}
}

// In a head no mark is looked for: the line's end ahead of it begins none.
func TestNoMarkInAHead(t *testing.T) {
	open(t, "--X\r\n--X--", "")
	fails(t, "--X\r\n--X--\r\n", "", api.ErrForm)
	open(t, "--X\r\n"+named+"--X--", "")
	fails(t, "--X\r\n"+named+"--X\r\n", "", api.ErrForm)
}

func TestCodesOfPart(t *testing.T) {
	for fields, code := range map[string]int{
		"":                            api.ErrNone,
		"X: y\r\nContent-Type: t\r\n": api.ErrNone,
		named + named:                 api.ErrTwice,
		"Content-Disposition:\r\n":    api.ErrForm,
		"Content-Disposition: form-data; name=\"\r\n":                                 api.ErrShort,
		"Content-Disposition: form-data; name=a; name=b\r\n":                          api.ErrTwice,
		"Content-Disposition: form-data;a=b;c=d\r\n":                                  api.ErrName,
		"Content-Disposition: form-data;a=1;b=2;c=3;d=4;e=5;f=6;g=7;h=8;name=x\r\n":   api.ErrMany,
		"Content-Disposition: x; name=a\r\n":                                          api.ErrKind,
		"Content-Disposition: form-data\r\n":                                          api.ErrName,
		"Content-Disposition: form-data; name=a; filename*=x\r\n":                     api.ErrForm,
		named + "Content-Type: a\r\nContent-Type: a\r\n":                              api.ErrTwice,
		"Content-Disposition: x\r\nContent-Type: a\r\ncontent-type: b\r\n":            api.ErrKind,
		"content-disposition: attachment; filename=x\r\nCONTENT-DISPOSITION: y;;\r\n": api.ErrTwice,
	} {
		for _, p := range places {
			fails(t, p.ahead+fields+"\r\n", p.events, code)
		}
	}
}

func TestPartWithoutBytes(t *testing.T) {
	over(t, "--X\r\n"+aHead+"--X--", one(""))
	over(t, "--X\r\n"+aHead+"\r\n--X--", one(""))
	over(t, "--X\r\n"+aHead+"--X\r\n"+aHead+"\r\n--X \r\n"+aHead+"--X--", one("")+one("")+one(""))
	open(t, "--X\r\n"+aHead+"--X", one(""))
	fails(t, "--X\r\n"+aHead+"--XX", one(""), api.ErrForm)
}

func TestBytesWithPiecesOfAMark(t *testing.T) {
	for _, body := range []string{
		"\r", "\n", "\r\n", "\r\n\r\n", "\n\r", "\r\r\n", "-", "--", "--X", "-X", "X", "--Y", "-\r\n", "--\r\n", "--\r\nX", "\n--X", "\r--X", "\r\n-", "\r\n--", "\r\n--Y",
		"\r\n---X", "\r\n--x", "\r\n-\r\n--", "\r\n\r\n--", "\r\n--\r\n--", "\r\n --X", "\r\r", "\r\n-X", "\x00", "\xff\r\n\x00", strings.Repeat("\r\n--", 50), strings.Repeat("\r", 50),
		"a\r\n-", "a--X--", aHead, "Y--X\r\n" + aHead, strings.Repeat("x", 3*api.MaxLine),
	} {
		// A mark that the CR and LF of the empty line begin: no bytes.
		if strings.HasPrefix(body, "--X") {
			check(t, "--X\r\n"+aHead+body+"\r\n--X--", plain("X", "--X\r\n"+aHead+body+"\r\n--X--"))
			body = "b" + body
		}
		over(t, "--X\r\n"+aHead+body+"\r\n--X--", one(body))
		over(t, "--X\r\n"+aHead+"b"+body+"\r\n--X--", one("b"+body))
		over(t, "--X\r\n"+aHead+body+"\r\n--X\r\n"+aHead+body+body+"\r\n--X--", one(body)+one(body+body))
		in := "--X\r\n" + aHead + body
		check(t, in, plain("X", in))
	}
	for n := range 256 {
		c := string([]byte{byte(n)})
		swift(t, "--X\r\n"+aHead+c+"\r\n--X--", outcome{one(c) + endText, 0})
		if c != "X" {
			swift(t, "--X\r\n"+aHead+c+"\r\n--"+c+c+"\r\n--X--", outcome{one(c+"\r\n--"+c+c) + endText, 0})
		}
	}
}

// What may begin a mark is told when it no longer may, and not ahead of it.
func TestBytesAreToldWhenTheyMay(t *testing.T) {
	f := begin(t, "X")
	for _, step := range []struct{ in, events string }{
		{"--X\r\n" + named + "\r", ""}, {"\n", headText}, {"b", bodyText("b")}, {"\r", ""}, {"c", bodyText("\rc")}, {"\r\n", ""}, {"\r", bodyText("\r\n")}, {"\n--", ""},
		{"\r", bodyText("\r\n--")}, {"\n--X", overText}, {"\r", ""}, {"\n" + aHead, headText}, {"-", ""}, {"-", ""}, {"Y", bodyText("--Y")}, {"\r\n--X", overText}, {"-", ""}, {"-", endText},
	} {
		if got := show(f.Feed([]byte(step.in))); got != step.events {
			t.Errorf("%q more: %s, want %s", step.in, got, step.events)
		}
	}
}

func TestFormThatIsNotWhole(t *testing.T) {
	in := "p\r\n--X \r\n" + named + "A: b\r\n\r\nb\r\n--X\r\n" + aHead + "--X\r\n" + named + "\r\n\r\nc\r\n\r\n--X--"
	over(t, in, one("b")+one("")+one("\r\nc\r\n"))
	for n := range len(in) {
		open(t, in[:n], plain("X", in[:n]).events)
	}
	open(t, "--X\r\n"+aHead, headText)
	open(t, "--X\r\n"+aHead+"b", headText+bodyText("b"))
	open(t, "--X\r\n"+aHead+"b\r\n--", headText+bodyText("b"))
	open(t, "--X\r\n"+aHead+"b\r\n--X", one("b"))
	open(t, "--X\r\n"+aHead+"b\r\n--X-", one("b"))
	open(t, "--X\r\n"+aHead+"b\r\n--X\r\n"+named, one("b"))
}

func TestManyParts(t *testing.T) {
	part := "--X\r\n" + aHead + "b\r\n"
	for n := range api.MaxParts + 1 {
		over(t, strings.Repeat(part, n)+"--X--", strings.Repeat(one("b"), n))
	}
	full, events := strings.Repeat(part, api.MaxParts), strings.Repeat(one("b"), api.MaxParts)
	open(t, full+"--X\r\n"+named, events)
	fails(t, full+"--X\r\n"+aHead, events, api.ErrMany)
	// It is named behind all other codes.
	fails(t, full+"--X?", events, api.ErrForm)
	fails(t, full+"--X\rx", events, api.ErrLine)
	fails(t, full+"--X\r\n\n", events, api.ErrLine)
	fails(t, full+"--X\r\nx\r\n", events, api.ErrForm)
	fails(t, full+"--X\r\n\r\n", events, api.ErrNone)
	fails(t, full+"--X\r\nContent-Disposition: x\r\n\r\n", events, api.ErrKind)
	empty := strings.Repeat("--X\r\n"+aHead, api.MaxParts)
	over(t, empty+"--X--", strings.Repeat(one(""), api.MaxParts))
	fails(t, empty+"--X\r\n"+aHead, strings.Repeat(one(""), api.MaxParts), api.ErrMany)
}

// plain reads all that came from the front, as the chapter tells it.
func plain(boundary, in string) outcome {
	mark := "\r\n--" + boundary
	out, count := "", 0
	fail := func(code int) outcome { return outcome{out + failText(code), code} }
	_, rest, found := strings.Cut("\r\n"+in, mark)
	for found {
		bare := strings.TrimLeft(rest, " \t")
		switch {
		case strings.HasPrefix(rest, "--"):
			return outcome{out + endText, 0}
		case rest == "-" || bare == "" || bare == "\r":
			return outcome{out, api.ErrShort}
		case bare[0] != '\r':
			return fail(api.ErrForm)
		case bare[1] != '\n':
			return fail(api.ErrLine)
		}
		l, behind, ok, code := plainHead(bare[2:])
		if code == 0 && !ok {
			return outcome{out, api.ErrShort}
		}
		var p api.Part
		if code == 0 {
			p, code = Part(l)
		}
		if code == 0 && count == api.MaxParts {
			code = api.ErrMany
		}
		if code != 0 {
			return fail(code)
		}
		count++
		out += partText(p.Name, p.File, p.Type)
		var body string
		if body, rest, found = strings.Cut("\r\n"+behind, mark); !found {
			for n := len(mark) - 1; ; n-- {
				if strings.HasSuffix(body, mark[:n]) {
					body = body[:len(body)-n]
					break
				}
			}
		}
		if len(body) > 2 {
			out += bodyText(body[2:])
		}
		if found {
			out += overText
		}
	}
	return outcome{out, api.ErrShort}
}

// plainHead reads fields and an empty line from the front of in: them, and what
// stands behind.
func plainHead(in string) (l []api.Field, rest string, ok bool, code int) {
	reader := lines.New()
	for i := range len(in) {
		line, ended, code := reader.Feed(in[i])
		switch {
		case code != 0:
			return nil, "", false, code
		case ended && line == "":
			return l, in[i+1:], true, 0
		case ended && len(l) == api.MaxFields:
			return nil, "", false, api.ErrMany
		case ended:
			f, code := fields.Parse(line)
			if code != 0 {
				return nil, "", false, code
			}
			l = append(l, f)
		}
	}
	return nil, "", false, 0
}

// texts: all of at most most of the pieces, one behind the other.
func texts(pieces []string, most int) []string {
	l := []string{""}
	for from, n := 0, 0; n < most; n++ {
		to := len(l)
		for _, s := range slices.Clone(l[from:to]) {
			for _, p := range pieces {
				l = append(l, s+p)
			}
		}
		from = to
	}
	return l
}

// against holds the program against the chapter as plain tells it.
func against(t *testing.T, boundary, in string) {
	want := plain(boundary, in)
	for _, got := range []outcome{whole(t, boundary, in), byPieces(t, boundary, in, 1), byPieces(t, boundary, in, 3)} {
		if got != want {
			t.Helper()
			t.Errorf("%q, %q:\n%s %d, want\n%s %d", boundary, in, got.events, got.code, want.events, want.code)
		}
	}
	checkRead(t, boundary, in, want)
}

func TestAllShortTexts(t *testing.T) {
	for _, boundary := range []string{"X", "-", "--", "X-", "-X", "--X"} {
		for _, in := range texts([]string{"-", "X", "\r\n", "\r", " "}, 6) {
			against(t, boundary, in)
		}
		for _, in := range texts([]string{"--" + boundary, "\r\n", aHead, "-", "b"}, 5) {
			against(t, boundary, in)
			against(t, boundary, "--"+boundary+"\r\n"+aHead+in)
		}
	}
	for _, in := range texts([]string{named, "\r\n", "\n", "a:\r\n", "x\r\n", "--X"}, 5) {
		against(t, "X", "--X\r\n"+in)
	}
	part := "--X\r\n" + aHead + "\r\n"
	for _, in := range texts([]string{part, "--X--", "--X\r\n", list(api.MaxFields), "\r\n", "b"}, 4) {
		against(t, "X", strings.Repeat(part, api.MaxParts-1)+in)
	}
}

// What others write is read as they meant it.
func TestFormsThatOthersWrite(t *testing.T) {
	var b bytes.Buffer
	w := multipart.NewWriter(&b)
	field, err := w.CreateFormField("field \"one\"")
	if err != nil {
		t.Fatal(err)
	}
	body := "\r\n--" + w.Boundary()[1:] + "\r\n"
	field.Write([]byte(body))
	file, err := w.CreateFormFile("two", `C:\x\.y.txt`)
	if err != nil {
		t.Fatal(err)
	}
	file.Write([]byte("\x00\xff"))
	if err := w.Close(); err != nil {
		t.Fatal(err)
	}
	checkBy(t, w.Boundary(), b.String(), outcome{
		partText("field \"one\"", "", "") + bodyText(body) + overText + partText("two", "y.txt", "application/octet-stream") + bodyText("\x00\xff") + overText + endText, 0,
	})
}

func TestTwoReadersAreApart(t *testing.T) {
	boundaries := []string{"X", "other"}
	ins := []string{
		"--X\r\n" + aHead + "b\r\n--other--\r\n--X\r\n" + aHead + "c\r\n--X--",
		"pre\r\n--other \r\nContent-Disposition: form-data; name=z; filename=f\r\n\r\n\r\n--X--\r\n--other\r\n" + named + named + "\r\n",
	}
	readers := []*Form{begin(t, boundaries[0]), begin(t, boundaries[1])}
	var got [2][]api.Event
	for i := range max(len(ins[0]), len(ins[1])) {
		for j, f := range readers {
			if i < len(ins[j]) {
				got[j] = append(got[j], f.Feed([]byte{ins[j][i]})...)
			}
		}
	}
	for j, f := range readers {
		want := plain(boundaries[j], ins[j])
		if s := (outcome{show(request.Join(got[j])), f.Close()}); s != want {
			t.Errorf("reader %d of two by turns: %v, want %v", j, s, want)
		}
	}
	if a, b := readers[0].Close(), readers[1].Close(); a != 0 || b != api.ErrTwice {
		t.Errorf("one fails, and not the other: %d, %d", a, b)
	}
	over(t, "--X\r\n"+aHead+"--X--", one(""))
}

// What is handed in stays as it is, also behind its length, and is not kept.
func TestFeedLeavesWhatIsHandedIn(t *testing.T) {
	in := "--X\r\n" + aHead + "bcd\r\n--Y\r\n--X--"
	for cut := range len(in) + 1 {
		f := begin(t, "X")
		memory := []byte(in + "\n\n\n")
		ahead := f.Feed(memory[:cut])
		if string(memory) != in+"\n\n\n" {
			t.Fatalf("what was handed in became %q", memory)
		}
		clear(memory)
		l := append(ahead, f.Feed([]byte(in[cut:]))...)
		if got := (outcome{show(request.Join(l)), f.Close()}); got != plain("X", in) {
			t.Errorf("cut at %d: what was handed in is kept: %v", cut, got)
		}
	}
	memory := []byte(in + "\n\n\n")
	parts, code := Read("X", memory[:len(in)])
	if string(memory) != in+"\n\n\n" {
		t.Errorf("what was handed in became %q", memory)
	}
	clear(memory)
	if showParts(parts) != one("bcd\r\n--Y") || code != 0 {
		t.Errorf("Read shares memory with what was handed in: %s, %d", showParts(parts), code)
	}
}

// What was answered is the caller's: neither does what comes later change it,
// nor does it change what is read.
func TestAnswersStayAsTheyWere(t *testing.T) {
	f := begin(t, "X")
	f.Feed([]byte("--X\r\n" + aHead))
	first := f.Feed([]byte("ab\r\n"))
	second := f.Feed([]byte("cd"))
	third := f.Feed([]byte("ef"))
	first[0].Bytes = append(first[0].Bytes, "xyz"...)
	clear(second[0].Bytes)
	rest := f.Feed([]byte("gh\r\n-i\r\n--X\r\n" + aHead + "\r\n--X--"))
	if show(first) != bodyText("abxyz") || show(third) != bodyText("ef") || show(rest) != bodyText("gh\r\n-i")+overText+one("")+endText {
		t.Errorf("answers share their memory: %s, %s, %s", show(first), show(third), show(rest))
	}
	// Nor do two lists of one answer share any.
	in := []byte(strings.Repeat("--X\r\n"+aHead+"ab\r\n", 3) + "--X--")
	l := begin(t, "X").Feed(in)
	clear(append(l[1].Bytes, "changed, and more"...))
	clear(append(l[4].Bytes, "changed, and more"...))
	if got := show(l[6:]); got != one("ab")+endText {
		t.Errorf("two lists of one answer share their memory: %s", got)
	}
	parts, _ := Read("X", in)
	clear(append(parts[0].Bytes, "changed, and more"...))
	clear(append(parts[1].Bytes, "changed, and more"...))
	if got := showParts(parts[2:]); got != one("ab") {
		t.Errorf("two parts share their memory: %s", got)
	}
}

// P1: were what came kept or read anew with each byte, this would not end in
// time.
func TestMuch(t *testing.T) {
	const n = 1 << 21
	f := begin(t, strings.Repeat("-", api.MaxMark))
	if l := f.Feed(bytes.Repeat([]byte("\r\n--"), n>>2)); len(l) > 0 || f.Close() != api.ErrShort {
		t.Errorf("ahead of a mark: %d events", len(l))
	}
	f = begin(t, "X")
	f.Feed([]byte("--X\r\n" + aHead))
	if l := f.Feed(bytes.Repeat([]byte("\r\n--Y"), n/5)); len(l) != 1 || len(l[0].Bytes) != n/5*5 {
		t.Errorf("much of a part: %d events", len(l))
	}
	for range n >> 2 {
		f.Feed([]byte("a"))
	}
	f.Feed([]byte("\r\n--X"))
	if l := f.Feed(bytes.Repeat([]byte(" "), n)); len(l) > 0 || f.Close() != api.ErrShort {
		t.Errorf("blanks behind a mark: %d events", len(l))
	}
	if l := f.Feed(bytes.Repeat([]byte("-"), n)); len(l) != 1 || f.Close() != api.ErrForm {
		t.Errorf("behind a code: %d events", len(l))
	}
	f = begin(t, "X")
	if l := f.Feed(append([]byte("--X--"), make([]byte, n)...)); len(l) != 1 || f.Close() != 0 {
		t.Errorf("behind the end: %d events", len(l))
	}
}
