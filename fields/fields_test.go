package fields

import (
	"slices"
	"strings"
	"testing"
	"unsafe"

	"lighterage/api"
)

const tokens = "0123456789abcdefghijklmnopqrstuvwxyzABCDEFGHIJKLMNOPQRSTUVWXYZ!#$%&'*+-.^_`|~"

// Names as long as may be, and one byte longer.
var (
	longName    = strings.Repeat("n", api.MaxName)
	tooLongName = longName + "n"
)

// The document's words, apart from what the program asks.
func token(c byte) bool   { return strings.IndexByte(tokens, c) >= 0 }
func visible(c byte) bool { return c == 9 || c >= 32 && c <= 126 || c >= 128 }
func blank(c byte) bool   { return c == 9 || c == 32 }

func every(s string, is func(byte) bool) bool {
	for i := range len(s) {
		if !is(s[i]) {
			return false
		}
	}
	return true
}

// parsed: what point 1 of the chapter asks of a line.
func parsed(line string) (api.Field, int) {
	i := strings.IndexByte(line, ':')
	if i < 0 {
		return api.Field{}, api.ErrForm
	}
	from, to := i+1, len(line)
	for from < to && blank(line[from]) {
		from++
	}
	for from < to && blank(line[to-1]) {
		to--
	}
	switch {
	case i == 0 || !every(line[:i], token):
		return api.Field{}, api.ErrName
	case i > 40:
		return api.Field{}, api.ErrLong
	case !every(line[from:to], visible):
		return api.Field{}, api.ErrChar
	}
	return api.Field{Name: line[:i], Value: line[from:to]}, 0
}

// written: what point 2 of the chapter asks of a field.
func written(f api.Field) (string, int) {
	v := f.Value
	switch {
	case f.Name == "" || !every(f.Name, token):
		return "", api.ErrName
	case len(f.Name) > 40 || len(f.Name)+1+1+len(v) > 200:
		return "", api.ErrLong
	case !every(v, visible) || v != "" && (blank(v[0]) || blank(v[len(v)-1])):
		return "", api.ErrChar
	}
	return f.Name + ": " + v, 0
}

func checkParse(t *testing.T, line string, want api.Field, wantCode int) {
	t.Helper()
	if f, code := Parse(line); f != want || code != wantCode {
		t.Errorf("Parse(%q): %q, %d, want %q, %d", line, f, code, want, wantCode)
	}
}

func checkText(t *testing.T, f api.Field, want string, wantCode int) {
	t.Helper()
	if s, code := Text(f); s != want || code != wantCode {
		t.Errorf("Text(%q): %q, %d, want %q, %d", f, s, code, want, wantCode)
	}
}

// checkAll holds All, and One, which hangs on it, against the values that
// there are.
func checkAll(t *testing.T, l []api.Field, name string, want ...string) {
	t.Helper()
	if got := All(l, name); !slices.Equal(got, want) {
		t.Errorf("All(%q, %q): %q, want %q", l, name, got, want)
	}
	value, wantCode := "", 0
	switch len(want) {
	case 0:
		wantCode = api.ErrNone
	case 1:
		value = want[0]
	default:
		wantCode = api.ErrTwice
	}
	if got, code := One(l, name); got != value || code != wantCode {
		t.Errorf("One(%q, %q): %q, %d, want %q, %d", l, name, got, code, value, wantCode)
	}
}

func TestParseOrdinary(t *testing.T) {
	for line, want := range map[string]api.Field{
		"Host: inland":               {Name: "Host", Value: "inland"},
		"Host:inland":                {Name: "Host", Value: "inland"},
		"Host:  a b ":                {Name: "Host", Value: "a b"},
		"content-TYPE: text/plain":   {Name: "content-TYPE", Value: "text/plain"},
		"a:1":                        {Name: "a", Value: "1"},
		"X: \"q\"; a=b":              {Name: "X", Value: "\"q\"; a=b"},
		"a: \xc3\xa9\x80\xff":        {Name: "a", Value: "\xc3\xa9\x80\xff"},
		"a: \u00a0b\u00a0":           {Name: "a", Value: "\u00a0b\u00a0"},
		tokens[:api.MaxName] + ": b": {Name: tokens[:api.MaxName], Value: "b"},
		tokens[api.MaxName:] + ": b": {Name: tokens[api.MaxName:], Value: "b"},
	} {
		checkParse(t, line, want, 0)
	}
}

func TestParseColons(t *testing.T) {
	for _, line := range []string{"", "x", " ", "Host", "Host inland", "a;b", "a=b", "a\xefb", "\x00", tooLongName} {
		checkParse(t, line, api.Field{}, api.ErrForm)
	}
	for _, line := range []string{":", ":a", ": a", "::", ":a:b", ": "} {
		checkParse(t, line, api.Field{}, api.ErrName)
	}
	checkParse(t, "a:b:c", api.Field{Name: "a", Value: "b:c"}, 0)
	checkParse(t, "Host: a:80", api.Field{Name: "Host", Value: "a:80"}, 0)
	checkParse(t, "a::", api.Field{Name: "a", Value: ":"}, 0)
	checkParse(t, "a: : ", api.Field{Name: "a", Value: ":"}, 0)
	checkParse(t, "a:b: ", api.Field{Name: "a", Value: "b:"}, 0)
}

func TestParseNames(t *testing.T) {
	for _, name := range []string{"a b", " a", "a ", "\ta", "a\t", "a/b", "a\"", "(a)", "a=", "é", "a\x7f", "a\x80", "\x00", "a\r", "\na"} {
		checkParse(t, name+": c", api.Field{}, api.ErrName)
		checkParse(t, name+":", api.Field{}, api.ErrName)
	}
	checkParse(t, longName+":", api.Field{Name: longName}, 0)
	checkParse(t, longName+": b", api.Field{Name: longName, Value: "b"}, 0)
	checkParse(t, tooLongName+":", api.Field{}, api.ErrLong)
	checkParse(t, tooLongName+": b", api.Field{}, api.ErrLong)
	checkParse(t, strings.Repeat(longName, 10)+": b", api.Field{}, api.ErrLong)
}

// Every byte at the first place of a name, inside it and at its end.
func TestParseEveryByteOfAName(t *testing.T) {
	for c := range 256 {
		for _, ends := range [][2]string{{"", ""}, {"", "a"}, {"a", ""}, {"a", "b"}, {longName[1:], ""}, {"", longName[1:]}} {
			name := ends[0] + string([]byte{byte(c)}) + ends[1]
			switch {
			case token(byte(c)):
				checkParse(t, name+": v", api.Field{Name: name, Value: "v"}, 0)
			case c != ':':
				checkParse(t, name+": v", api.Field{}, api.ErrName)
			case ends[0] == "":
				checkParse(t, name+": v", api.Field{}, api.ErrName)
			default:
				checkParse(t, name+": v", api.Field{Name: ends[0], Value: ends[1] + ": v"}, 0)
			}
		}
	}
}

func TestParseValues(t *testing.T) {
	for rest, want := range map[string]string{
		"": "", " ": "", "\t": "", "  ": "", " \t \t ": "", "b": "b", " b": "b", "b ": "b",
		"\tb": "b", "b\t": "b", " \tb\t ": "b", "  b  c  ": "b  c", "\tb\tc\t": "b\tc",
	} {
		checkParse(t, "a:"+rest, api.Field{Name: "a", Value: want}, 0)
	}
}

// A line has no bound of its own here: it is lines that bounds it.
func TestParseLongValue(t *testing.T) {
	for _, n := range []int{api.MaxLine - 3, api.MaxLine, api.MaxLine + 1, 100000} {
		value := strings.Repeat("v", n)
		checkParse(t, "a: "+value, api.Field{Name: "a", Value: value}, 0)
		checkParse(t, "a:"+strings.Repeat(" ", n), api.Field{Name: "a"}, 0)
	}
}

// Every byte at each place of a value, with blanks around it and without.
func TestParseEveryByteOfAValue(t *testing.T) {
	const value = "v\tw x"
	for c := range 256 {
		for i := range len(value) {
			b := []byte(value)
			b[i] = byte(c)
			want, code := api.Field{Name: "a", Value: strings.Trim(string(b), " \t")}, 0
			if !visible(byte(c)) {
				want, code = api.Field{}, api.ErrChar
			}
			for _, around := range []string{"", " ", "\t "} {
				checkParse(t, "a:"+around+string(b)+around, want, code)
			}
		}
	}
	for _, rest := range []string{"\x00", " \x00", "\x00 ", " \r", "\n", "b\r\n", "\x7f", " b\x1f "} {
		checkParse(t, "a:"+rest, api.Field{}, api.ErrChar)
	}
}

// Where two codes could be told, it is the one that the chapter names first.
func TestParseTwoCodes(t *testing.T) {
	checkParse(t, "a b\x00", api.Field{}, api.ErrForm)
	checkParse(t, tooLongName+" \x00", api.Field{}, api.ErrForm)
	checkParse(t, tooLongName+" :", api.Field{}, api.ErrName)
	checkParse(t, tooLongName+"\x00: \x00", api.Field{}, api.ErrName)
	checkParse(t, ":\x00", api.Field{}, api.ErrName)
	checkParse(t, "a b: \x00", api.Field{}, api.ErrName)
	checkParse(t, tooLongName+": \x00", api.Field{}, api.ErrLong)
}

func TestTextOrdinary(t *testing.T) {
	checkText(t, api.Field{Name: "Host", Value: "inland"}, "Host: inland", 0)
	checkText(t, api.Field{Name: "Host", Value: "a b"}, "Host: a b", 0)
	checkText(t, api.Field{Name: "content-TYPE", Value: "a:b\t: c"}, "content-TYPE: a:b\t: c", 0)
	checkText(t, api.Field{Name: "a", Value: ":"}, "a: :", 0)
	checkText(t, api.Field{Name: "a"}, "a: ", 0)
	checkText(t, api.Field{Name: "a", Value: "\x80\xff"}, "a: \x80\xff", 0)
	checkText(t, api.Field{Name: longName, Value: "b"}, longName+": b", 0)
	checkText(t, api.Field{Name: longName}, longName+": ", 0)
}

func TestTextNames(t *testing.T) {
	for _, name := range []string{"", ":", "a:", "a b", " a", "a ", "\ta", "a/b", "é", "a\x7f", "a\x80", "\x00", "a\r\nb"} {
		checkText(t, api.Field{Name: name, Value: "b"}, "", api.ErrName)
		checkText(t, api.Field{Name: name}, "", api.ErrName)
	}
	checkText(t, api.Field{Name: tooLongName, Value: "b"}, "", api.ErrLong)
	checkText(t, api.Field{Name: tooLongName}, "", api.ErrLong)
}

func TestTextAsLongAsMayBe(t *testing.T) {
	for _, name := range []string{"a", "Host", longName} {
		value := strings.Repeat("v", api.MaxLine-len(name)-2)
		checkText(t, api.Field{Name: name, Value: value}, name+": "+value, 0)
		checkText(t, api.Field{Name: name, Value: value + "v"}, "", api.ErrLong)
		checkText(t, api.Field{Name: name, Value: value + value}, "", api.ErrLong)
		checkText(t, api.Field{Name: name, Value: value[1:]}, name+": "+value[1:], 0)
	}
	checkText(t, api.Field{Name: strings.Repeat("n", 100000), Value: strings.Repeat("v", 100000)}, "", api.ErrLong)
}

func TestTextNotTrimmed(t *testing.T) {
	for _, value := range []string{" ", "\t", "  ", " b", "b ", "\tb", "b\t", " b ", "\tb\t", " b c", "b c "} {
		checkText(t, api.Field{Name: "a", Value: value}, "", api.ErrChar)
	}
	checkText(t, api.Field{Name: "a", Value: "b c\td"}, "a: b c\td", 0)
	// Blanks beyond 32 and tabs are bytes like others.
	checkText(t, api.Field{Name: "a", Value: "\u00a0b\u2003"}, "a: \u00a0b\u2003", 0)
	checkThereAndBack(t, api.Field{Name: "a", Value: "\u0085b\u00a0"})
}

// Every byte at each place of a name and of a value.
func TestTextEveryByte(t *testing.T) {
	for c := range 256 {
		for i := range 3 {
			b := []byte("abc")
			b[i] = byte(c)
			s := string(b)
			if token(byte(c)) {
				checkText(t, api.Field{Name: s, Value: "v"}, s+": v", 0)
			} else {
				checkText(t, api.Field{Name: s, Value: "v"}, "", api.ErrName)
			}
			if !visible(byte(c)) || i != 1 && blank(byte(c)) {
				checkText(t, api.Field{Name: "n", Value: s}, "", api.ErrChar)
			} else {
				checkText(t, api.Field{Name: "n", Value: s}, "n: "+s, 0)
			}
		}
	}
}

func TestTextTwoCodes(t *testing.T) {
	full := strings.Repeat("v", api.MaxLine)
	checkText(t, api.Field{Value: full}, "", api.ErrName)
	checkText(t, api.Field{Value: " \x00"}, "", api.ErrName)
	checkText(t, api.Field{Name: tooLongName + " ", Value: "b"}, "", api.ErrName)
	checkText(t, api.Field{Name: "a b", Value: "\x00"}, "", api.ErrName)
	checkText(t, api.Field{Name: tooLongName, Value: "\x00"}, "", api.ErrLong)
	checkText(t, api.Field{Name: tooLongName, Value: " b"}, "", api.ErrLong)
	checkText(t, api.Field{Name: "a", Value: full + "\x00"}, "", api.ErrLong)
	checkText(t, api.Field{Name: "a", Value: full + " "}, "", api.ErrLong)
	checkText(t, api.Field{Name: "a", Value: " " + full}, "", api.ErrLong)
	checkText(t, api.Field{Name: "a", Value: strings.Repeat(" ", api.MaxLine)}, "", api.ErrLong)
	checkText(t, api.Field{Name: "a", Value: strings.Repeat(" ", api.MaxLine-3)}, "", api.ErrChar)
}

func TestAllAndOne(t *testing.T) {
	l := []api.Field{{Name: "A", Value: "1"}, {Name: "b", Value: "2"}, {Name: "a", Value: "3"}, {Name: "Host-Name", Value: ""}, {Name: "A", Value: "1"}}
	checkAll(t, l, "a", "1", "3", "1")
	checkAll(t, l, "A", "1", "3", "1")
	checkAll(t, l, "b", "2")
	checkAll(t, l, "B", "2")
	checkAll(t, l, "host-name", "")
	checkAll(t, l, "HOST-NAME", "")
	checkAll(t, l, "hOsT-nAmE", "")
	checkAll(t, l, "c")
	checkAll(t, l, "")
	checkAll(t, l, "host")
	checkAll(t, l, "host-name ")
	checkAll(t, l, "2")
	checkAll(t, l[:1], "a", "1")
	checkAll(t, l[:2], "a", "1")
	checkAll(t, l[:3], "a", "1", "3")
	checkAll(t, l[2:4], "A", "3")
	checkAll(t, []api.Field{{Name: "a", Value: "z"}, {Name: "a", Value: "y"}}, "A", "z", "y")
	checkAll(t, []api.Field{{Name: "a"}, {Name: "A"}}, "a", "", "")
}

func TestAllAndOneOfNoField(t *testing.T) {
	behind := []api.Field{{Name: "a", Value: "1"}}
	for _, l := range [][]api.Field{nil, {}, behind[:0]} {
		checkAll(t, l, "a")
		checkAll(t, l, "")
	}
}

// Names need not be tokens here, and only A to Z have a small letter.
func TestAllAndOneOfOddNames(t *testing.T) {
	l := []api.Field{{Name: "", Value: "1"}, {Name: "K", Value: "2"}, {Name: "\u212a", Value: "3"}, {Name: "É", Value: "4"}, {Name: "\xc1", Value: "5"}, {Name: "a b\x00", Value: " \x00 "}, {Name: "[", Value: "6"}}
	checkAll(t, l, "", "1")
	checkAll(t, l, "k", "2")
	checkAll(t, l, "\u212a", "3")
	checkAll(t, l, "É", "4")
	checkAll(t, l, "é")
	checkAll(t, l, "\xc1", "5")
	checkAll(t, l, "\xe1")
	checkAll(t, l, "\xff")
	checkAll(t, l, "A B\x00", " \x00 ")
	checkAll(t, l, "[", "6")
	checkAll(t, l, "{")
}

// Every byte as a name, asked for by every byte.
func TestAllAndOneByEveryByte(t *testing.T) {
	small := func(c int) int {
		if c >= 'A' && c <= 'Z' {
			return c + 32
		}
		return c
	}
	for c := range 256 {
		l := []api.Field{{Name: string([]byte{byte(c)}), Value: "v"}}
		for d := range 256 {
			var want []string
			if small(c) == small(d) {
				want = []string{"v"}
			}
			checkAll(t, l, string([]byte{byte(d)}), want...)
		}
	}
}

// short: every text of at most n of these bytes.
func short(of string, n int) []string {
	all, last := []string{""}, []string{""}
	for range n {
		var next []string
		for _, s := range last {
			for i := range len(of) {
				next = append(next, s+of[i:i+1])
			}
		}
		all, last = append(all, next...), next
	}
	return all
}

// Every short line, also behind a name that is nearly too long, against the
// chapter's words written out.
func TestParseOfShortLines(t *testing.T) {
	for _, line := range short("aZ: \t\x00\x7f\xff", 5) {
		for _, ahead := range []string{"", longName[2:]} {
			want, code := parsed(ahead + line)
			checkParse(t, ahead+line, want, code)
		}
	}
}

func TestTextOfShortFields(t *testing.T) {
	values := short("a: \t\x00\xff", 3)
	for _, name := range short("aZ: \x00", 2) {
		for _, ahead := range []string{"", longName[1:]} {
			for _, value := range values {
				for _, n := range []int{0, api.MaxLine - 4, api.MaxLine - api.MaxName - 4} {
					f := api.Field{Name: ahead + name, Value: strings.Repeat("v", n) + value}
					want, code := written(f)
					checkText(t, f, want, code)
					checkThereAndBack(t, f)
				}
			}
		}
	}
}

func checkThereAndBack(t *testing.T, f api.Field) {
	t.Helper()
	text, code := Text(f)
	if code != 0 {
		return
	}
	if back, code := Parse(text); back != f || code != 0 {
		t.Errorf("Parse(Text(%q)): %q, %d", f, back, code)
	}
}

// Of what Parse read Text is the line as it is mostly written, and it leads
// there and back.
func TestThereAndBack(t *testing.T) {
	for _, f := range []api.Field{
		{Name: "Host", Value: "inland"}, {Name: "HOST", Value: "a  b"}, {Name: "a"}, {Name: "a", Value: ":"},
		{Name: "a", Value: "b: c"}, {Name: "a", Value: "\x80\tb"}, {Name: longName, Value: "\"b\""},
		{Name: longName, Value: strings.Repeat("v", api.MaxLine-api.MaxName-2)},
		{Name: "a", Value: strings.Repeat(":", api.MaxLine-3)},
	} {
		if _, code := Text(f); code != 0 {
			t.Errorf("Text(%q): code %d", f, code)
		}
		checkThereAndBack(t, f)
	}
	for line, want := range map[string]string{"a:b": "a: b", "a:": "a: ", "A: \tb c\t": "A: b c", "a: b": "a: b"} {
		f, _ := Parse(line)
		checkText(t, f, want, 0)
	}
}

// within: does a text lie in the memory of another one?
func within(s, of string) bool {
	if s == "" || of == "" {
		return false
	}
	from, at := uintptr(unsafe.Pointer(unsafe.StringData(of))), uintptr(unsafe.Pointer(unsafe.StringData(s)))
	return at >= from && at < from+uintptr(len(of))
}

func TestAnswersShareNoMemory(t *testing.T) {
	for _, line := range []string{"Host:inland", "Host: inland ", "a:b"} {
		f, _ := Parse(line)
		if within(f.Name, line) || within(f.Value, line) {
			t.Errorf("Parse(%q) shares the memory of its argument", line)
		}
		text, _ := Text(f)
		if within(text, f.Name) || within(text, f.Value) {
			t.Errorf("Text(%q) shares the memory of its argument", f)
		}
		one, _ := One([]api.Field{f}, f.Name)
		if within(one, f.Value) || within(All([]api.Field{f}, f.Name)[0], f.Value) {
			t.Errorf("a value of %q shares the memory of its field", f)
		}
	}
}

// What is handed in stays as it is, also behind its length, and what was
// answered is not touched by a later call.
func TestListsAreNeitherChangedNorKept(t *testing.T) {
	whole := []api.Field{{Name: "A", Value: "1"}, {Name: "a", Value: "2"}, {Name: "A", Value: "behind"}}
	before := slices.Clone(whole)
	l := whole[:2]
	first := All(l, "a")
	second := All(l, "A")
	if &first[0] == &second[0] {
		t.Error("two answers share their memory")
	}
	second[0] = "changed"
	One(l, "a")
	if want := []string{"1", "2"}; !slices.Equal(first, want) || !slices.Equal(All(l, "a"), want) {
		t.Errorf("All: %q, then %q, want %q", first, All(l, "a"), want)
	}
	if !slices.Equal(whole, before) {
		t.Errorf("the list became %q", whole)
	}
	l[0].Value = "3"
	if first[0] != "1" {
		t.Errorf("the answer changed with the list: %q", first)
	}
	checkAll(t, l, "a", "3", "2")
}

// P1: a panic or a call without an end fails here, whatever is given.
func TestEveryTextIsAnsweredAlike(t *testing.T) {
	var texts []string
	for c := range 256 {
		texts = append(texts, string([]byte{byte(c)}), strings.Repeat(string([]byte{byte(c)}), 10000))
	}
	texts = append(texts, "", strings.Repeat("a:", 100000), strings.Repeat("\r\n", 100000), "a:"+strings.Repeat("\t ", 100000))
	ask := func(s string) []any {
		p, c := Parse(s)
		n, d := Text(api.Field{Name: s, Value: "v"})
		v, e := Text(api.Field{Name: "n", Value: s})
		o, f := One([]api.Field{{Name: s, Value: s}}, s)
		return []any{p, c, n, d, v, e, o, f}
	}
	first := make([][]any, len(texts))
	for i, s := range texts {
		first[i] = ask(s)
	}
	for i := len(texts) - 1; i >= 0; i-- {
		if !slices.Equal(ask(texts[i]), first[i]) {
			t.Errorf("%.20q is answered in two ways", texts[i])
		}
	}
}
