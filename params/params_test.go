package params

import (
	"regexp"
	"slices"
	"strconv"
	"strings"
	"testing"
	"unsafe"

	"lighterage/api"
)

const (
	tokens = "0123456789abcdefghijklmnopqrstuvwxyzABCDEFGHIJKLMNOPQRSTUVWXYZ!#$%&'*+-.^_`|~"

	// The grammar of the chapter's head, as expressions.
	blanksExp = "[ \t]*"
	tokenExp  = "[0-9A-Za-z!#$%&'*+.^_`|~-]+"
	insideExp = `(?:[^"\\]|\\(?s:.))*`
)

// The chapter's words, apart from what the program asks.
var (
	wordIs  = regexp.MustCompile(`^` + tokenExp + `(?:/` + tokenExp + `)?$`)
	wordAt  = regexp.MustCompile(`^` + blanksExp + `(` + tokenExp + `(?:/` + tokenExp + `)?)`)
	paramAt = regexp.MustCompile(`^` + blanksExp + `;` + blanksExp + `(` + tokenExp + `)=(?:(` + tokenExp + `)|"(` + insideExp + `)")`)
	shortAt = regexp.MustCompile(`^` + blanksExp + `;` + blanksExp + tokenExp + `="` + insideExp + `\\?$`)
	endAt   = regexp.MustCompile(`^` + blanksExp + `$`)
	hidden  = regexp.MustCompile("[\x00-\x08\x0a-\x1f\x7f]")
	escape  = regexp.MustCompile(`\\(?s:(.))`)
	tokenIs = regexp.MustCompile(`^` + tokenExp + `$`)
	capital = regexp.MustCompile(`[A-Z]`)
)

// parsed: what point 1 of the chapter asks of a text in UTF-8.
func parsed(s string) (api.Media, int) {
	word := wordAt.FindStringSubmatch(s)
	switch {
	case hidden.MatchString(s):
		return api.Media{}, api.ErrChar
	case word == nil:
		return api.Media{}, api.ErrForm
	}
	m := api.Media{Word: strings.ToLower(word[1])}
	for s = s[len(word[0]):]; !endAt.MatchString(s); {
		p := paramAt.FindStringSubmatch(s)
		switch {
		case p == nil && shortAt.MatchString(s):
			return api.Media{}, api.ErrShort
		case p == nil:
			return api.Media{}, api.ErrForm
		}
		name := strings.ToLower(p[1])
		for _, q := range m.Params {
			if q.Name == name {
				return api.Media{}, api.ErrTwice
			}
		}
		if len(m.Params) == 8 {
			return api.Media{}, api.ErrMany
		}
		m.Params = append(m.Params, api.Param{Name: name, Value: p[2] + escape.ReplaceAllString(p[3], "$1")})
		s = s[len(p[0]):]
	}
	return m, 0
}

// written: what point 2 of the chapter asks of a value in UTF-8.
func written(m api.Media) (string, int) {
	switch {
	case !wordIs.MatchString(m.Word) || capital.MatchString(m.Word):
		return "", api.ErrForm
	case len(m.Params) > 8:
		return "", api.ErrMany
	}
	text, ahead := m.Word, map[string]bool{}
	for _, p := range m.Params {
		switch {
		case !tokenIs.MatchString(p.Name) || capital.MatchString(p.Name):
			return "", api.ErrName
		case ahead[p.Name]:
			return "", api.ErrTwice
		case hidden.MatchString(p.Value):
			return "", api.ErrChar
		}
		ahead[p.Name] = true
		value := p.Value
		if !tokenIs.MatchString(value) {
			value = `"` + strings.NewReplacer(`"`, `\"`, `\`, `\\`).Replace(value) + `"`
		}
		text += "; " + p.Name + "=" + value
	}
	return text, 0
}

func same(a, b api.Media) bool { return a.Word == b.Word && slices.Equal(a.Params, b.Params) }

// media: a value of a word, and of names and values by turns.
func media(word string, l ...string) api.Media {
	m := api.Media{Word: word}
	for i := 0; i < len(l); i += 2 {
		m.Params = append(m.Params, api.Param{Name: l[i], Value: l[i+1]})
	}
	return m
}

// many: n parameters, p0 to p and n - 1, with their numbers as values.
func many(n int) (m api.Media, text string) {
	m.Word, text = "a", "a"
	for i := range n {
		d := strconv.Itoa(i)
		m.Params = append(m.Params, api.Param{Name: "p" + d, Value: d})
		text += "; p" + d + "=" + d
	}
	return m, text
}

func checkParse(t *testing.T, s string, want api.Media, wantCode int) {
	t.Helper()
	if m, code := Parse(s); !same(m, want) || code != wantCode {
		t.Errorf("Parse(%q): %q, %d, want %q, %d", s, m, code, want, wantCode)
	}
}

func checkFaults(t *testing.T, code int, l ...string) {
	t.Helper()
	for _, s := range l {
		checkParse(t, s, api.Media{}, code)
	}
}

func checkText(t *testing.T, m api.Media, want string, wantCode int) {
	t.Helper()
	if s, code := Text(m); s != want || code != wantCode {
		t.Errorf("Text(%q): %q, %d, want %q, %d", m, s, code, want, wantCode)
	}
}

func checkGet(t *testing.T, m api.Media, name, want string, wantOk bool) {
	t.Helper()
	if v, ok := Get(m, name); v != want || ok != wantOk {
		t.Errorf("Get(%q, %q): %q, %v, want %q, %v", m, name, v, ok, want, wantOk)
	}
}

func checkThereAndBack(t *testing.T, m api.Media) {
	t.Helper()
	text, code := Text(m)
	if code != 0 {
		return
	}
	if back, code := Parse(text); !same(back, m) || code != 0 {
		t.Errorf("Parse(Text(%q)): %q, %d", m, back, code)
	}
}

func TestParseOrdinary(t *testing.T) {
	for s, want := range map[string]api.Media{
		"text/plain":                                media("text/plain"),
		"text/plain; charset=utf-8":                 media("text/plain", "charset", "utf-8"),
		"multipart/form-data; boundary=--x":         media("multipart/form-data", "boundary", "--x"),
		`form-data; name="a b"; filename="c;d.txt"`: media("form-data", "name", "a b", "filename", "c;d.txt"),
		"form-data;name=a;filename*=utf-8''%41":     media("form-data", "name", "a", "filename*", "utf-8''%41"),
		"a;b=1;c=1":                                 media("a", "b", "1", "c", "1"),
		"a;bc=1;b=2;cb=3":                           media("a", "bc", "1", "b", "2", "cb", "3"),
		"0":                                         media("0"),
		"a;a=a":                                     media("a", "a", "a"),
	} {
		checkParse(t, s, want, 0)
	}
}

// Word and names become small letters, values stay; only A to Z have others.
func TestParseSmallLetters(t *testing.T) {
	checkParse(t, "TEXT/Plain; CharSet=UTF-8", media("text/plain", "charset", "UTF-8"), 0)
	checkParse(t, `A;B="C";D=e`, media("a", "b", "C", "d", "e"), 0)
	checkParse(t, tokens+"/"+tokens+";"+tokens+"="+tokens, media(strings.ToLower(tokens+"/"+tokens), strings.ToLower(tokens), tokens), 0)
	checkParse(t, "a;b=\"É\u212a\xc1Z\"", media("a", "b", "É\u212a\xc1Z"), 0)
}

func TestParseNothing(t *testing.T) {
	checkFaults(t, api.ErrForm, "", " ", "\t", "  ", " \t \t")
}

// Blanks and tabs at each place where the grammar has them, and at each where
// it has none.
func TestParseBlanks(t *testing.T) {
	want := media("a/b", "c", "d", "e", "f g")
	for _, b := range []string{"", " ", "\t", " \t", "\t  \t"} {
		for at := range 6 {
			var l [6]string
			l[at] = b
			checkParse(t, l[0]+"a/b"+l[1]+";"+l[2]+"c=d"+l[3]+";"+l[4]+`e="f g"`+l[5], want, 0)
		}
		checkParse(t, b+"a/b"+b+";"+b+"c=d"+b+";"+b+`e="f g"`+b, want, 0)
	}
	for _, b := range []string{" ", "\t", " \t"} {
		checkFaults(t, api.ErrForm, "a"+b+"/b", "a/"+b+"b", "a"+b+"a", "a;c"+b+"=d", "a;c="+b+"d", "a;c"+b+`="d"`,
			"a;c="+b+`"d"`, "a;c"+b+"c=d", "a;c=d"+b+"d", `a;c="d"`+b+"d", `a;c="d"`+b+`"d"`, "a;c="+b, "a;c"+b)
	}
	checkParse(t, "a;b=\" \tc\t \"", media("a", "b", " \tc\t "), 0)
	// Others that are white are none of these.
	checkFaults(t, api.ErrForm, "\u00a0a", "a\u00a0", "a;\u2003b=c", "\xa0a", "a\x85")
}

func TestParseWords(t *testing.T) {
	checkParse(t, "a", media("a"), 0)
	checkParse(t, "a/b", media("a/b"), 0)
	checkFaults(t, api.ErrForm, "/", "a/", "/b", "//", "a//b", "a/b/", "a/b/c", "/a/b", "a/;b=c", "/;b=c", "a/b/c;d=e",
		";", ";b=c", "=", "=a", "a=b", `"a"`, `a"`, `"`, `a/"b"`, "a,b", "a\\", "(a)", "é", "a\x80", "a/\xff", "a@b")
}

func TestParseParams(t *testing.T) {
	checkFaults(t, api.ErrForm, "a;", "a; ", "a ;\t", "a;;", "a;;b=c", "a;b=c;", "a;b=c; ", "a;b=c;;", "a;b=c;;d=e",
		"a;b", "a;b;", "a;b;c=d", "a;=", "a;=c", `a;="c"`, "a;b=", "a;b=;", "a;b=;c=d", "a;b= ", "a;b==", "a;b==c", "a;b=c=d",
		"a;/b=c", "a;b/=c", "a;b=/", "a;b=c/d", "a;b=c,d=e", "a,b=c", "a b=c", "a;b=c d=e", `a;"b"=c`, `a;b"=c`, "a;b=\\",
		"a;é=c", "a;b=é", "a;b\x80=c", "a;b=\xff", "a;b=c\\", "a;b:c", "a;b='c d'", "a;b=c:d")
}

func TestParseQuoted(t *testing.T) {
	for quoted, value := range map[string]string{
		`""`: "", `" "`: " ", "\"\t\"": "\t", `"a"`: "a", `"a b"`: "a b", `";"`: ";", `"a;b=c"`: "a;b=c", `"="`: "=", `"/"`: "/",
		`"\""`: `"`, `"\\"`: `\`, `"\\\\"`: `\\`, `"\\\""`: `\"`, `"\"\\"`: `"\`, `"a\"b"`: `a"b`, `"a\\b"`: `a\b`, `"\a"`: "a",
		`"\a\B\ \;"`: "aB ;", `"\n\r\t\0\x41"`: "nrt0x41", `"a\"; c=\"d"`: `a"; c="d`, `"'"`: "'", "\"\\\t\"": "\t",
		"\"\x80\xff\"": "\x80\xff", "\"\\\x80\"": "\x80", `"é"`: "é", `"\é"`: "é", `"` + tokens + `"`: tokens,
	} {
		checkParse(t, "a;b="+quoted, media("a", "b", value), 0)
		checkParse(t, "a;b="+quoted+" ; c=d", media("a", "b", value, "c", "d"), 0)
		checkFaults(t, api.ErrForm, "a;b="+quoted+"c", "a;b="+quoted+`"`, "a;b="+quoted+`"c"`, "a;b="+quoted+"=", "a;b="+quoted+" c",
			"a;b="+quoted+"\\", "a;b="+quoted+";", "a;b=c"+quoted, "a;b="+quoted+"c; d=\"", "a;b="+quoted+"\x80")
	}
}

func TestParseEndsInQuotes(t *testing.T) {
	checkFaults(t, api.ErrShort, `a;b="`, `a;b="c`, `a;b=" `, `a;b="\`, `a;b="c\`, `a;b="\"`, `a;b="c\"`, `a;b="\\\"`, `a;b="\\`,
		`a;b="\\\`, `a;b="c;d=e`, `a;b="c";d="`, `a;b="c";d="\`, `a;b="c\";d=e`, `a;b=c;d="e`, `a;b="c\"d`, "a;b=\"\x80", `A/B ; C="`)
	// It ends in no quoted text, or can't go on ahead of it.
	checkFaults(t, api.ErrForm, `a"`, `a;"`, `a;b"`, `a;b=c"`, `a;b="c""`, `a b;c="`, `a;;b="`, `a;b;c="`, `/;b="`, `;b="`, `a;b= "`, `a;b="c" "`)
}

// A byte that is not visible is told at each place, whatever stands ahead of
// it or behind it.
func TestParseHiddenBytes(t *testing.T) {
	_, full := many(api.MaxParams)
	l := []string{"", " ", "a", "a/b", ` a/b ; c="d\"e" ; f=g `, "a b", "a;", "a/", `a;b="`, `a;b="\`, "a;b=c;B=d", full + ";x=y", full + ";p0=y"}
	for _, s := range l {
		for i := range len(s) + 1 {
			for _, c := range []string{"\x00", "\x01", "\x08", "\n", "\v", "\r", "\x1f", "\x7f"} {
				checkFaults(t, api.ErrChar, s[:i]+c+s[i:])
			}
		}
	}
}

// Every byte at each place of a value.
func TestParseEveryByteAtEveryPlace(t *testing.T) {
	s := " a/b ; c=d ; e=\"f\\g\" "
	for i := range len(s) + 1 {
		for c := range 128 {
			for _, x := range []string{s[:i] + string(rune(c)) + s[i:], s[:i] + string(rune(c)) + s[min(i+1, len(s)):]} {
				want, code := parsed(x)
				checkParse(t, x, want, code)
			}
		}
	}
	// From 128 on they stand in quoted texts alone.
	for i := range len(s) + 1 {
		for c := 128; c < 256; c++ {
			b := string([]byte{byte(c)})
			if i < strings.IndexByte(s, 'f') || i > strings.LastIndexByte(s, '"') {
				checkFaults(t, api.ErrForm, s[:i]+b+s[i:])
				continue
			}
			if m, code := Parse(s[:i] + b + s[i:]); code != 0 || len(m.Params) != 2 || strings.Replace(m.Params[1].Value, b, "", 1) != "fg" {
				t.Errorf("%q in the quotes: %q, %d", b, m, code)
			}
		}
	}
}

func TestParseTwice(t *testing.T) {
	checkFaults(t, api.ErrTwice, "a;b=1;b=2", "a;b=1;b=1", "a;b=1;B=2", "a;B=1;b=2", "a;B=1;B=2", "a;bC=1;Bc=2", "a;b=1;c=2;b=3",
		"a;b=1;c=2;C=3;b=4", `a;b="";b=""`, `a;b=1;b="2"`, `a;b="1";b=2`)
	checkParse(t, "a;a=b;b=b", media("a", "a", "b", "b", "b"), 0)
	checkParse(t, "a;b=1;b-=2;b!=3", media("a", "b", "1", "b-", "2", "b!", "3"), 0)
	checkParse(t, "a;[=1", api.Media{}, api.ErrForm)
	checkParse(t, "a;^=1;~=2;`=3", media("a", "^", "1", "~", "2", "`", "3"), 0)
}

func TestParseMany(t *testing.T) {
	for n := range api.MaxParams + 1 {
		m, s := many(n)
		checkParse(t, s, m, 0)
		checkParse(t, s+" \t", m, 0)
	}
	_, full := many(api.MaxParams)
	checkFaults(t, api.ErrMany, full+";x=y", full+`;x=""`, full+";P=y", full+";x=y;z=1", full+";x=y;x=y")
	for i := range api.MaxParams {
		checkFaults(t, api.ErrTwice, full+";p"+strconv.Itoa(i)+"=y", full+" ; P"+strconv.Itoa(i)+`="y"`)
	}
	_, more := many(20)
	checkFaults(t, api.ErrMany, more, more+"; p0=y", more+";")
}

// What is told of a parameter is told when it has been read: ahead of what
// stands behind it, and behind what stands ahead of it or in it.
func TestParseFaultsInTheirOrder(t *testing.T) {
	_, full := many(api.MaxParams)
	checkFaults(t, api.ErrTwice, "a;b=1;b=2;", "a;b=1;b=2/", "a;b=1;b=2 x", `a;b=1;b=2"`, `a;b=1;b="2"x`, `a;b=1;b=2;c="`, "a;b=1;b=2=", full+";p0=1;x=y")
	checkFaults(t, api.ErrMany, full+";x=y;", full+";x=y/", full+";x=y z", full+`;x="y"z`, full+`;x=y;z="`, full+";x=y;p0=1")
	checkFaults(t, api.ErrForm, "a;b=1;b", "a;b=1;b=", "a;b=1;b=;", "a;b=1 b=2", "a/;b=1;b=2", "a;;b=1;b=2", full+";", full+";x", full+";x=", full+" x=y", full+"/;x=y", full+";p0=")
	checkFaults(t, api.ErrShort, `a;b=1;b="`, `a;b=1;b="2`, `a;b=1;b="2\"`, full+`;x="`, full+`;p0="`, full+`;x="y\`)
}

// short: every text of at most n of these bytes.
func short(of string, n int) []string {
	all, last := []string{""}, []string{""}
	for range n {
		var next []string
		for _, s := range last {
			for i := range len(of) {
				next = append(next, s+of[i:i+1])
			}
		}
		all, last = append(all, next...), next
	}
	return all
}

// Every short text, also behind some that have begun well, against the
// chapter's words written out.
func TestParseOfShortTexts(t *testing.T) {
	_, full := many(api.MaxParams)
	_, nearly := many(api.MaxParams - 1)
	for ahead, n := range map[string]int{"": 5, "a": 5, "a;": 5, "a;a=1": 5, `a;a="`: 5, "a;b=1 ;B=": 4, nearly + ";p7=7": 4, full + ";": 4, full + ";p1=": 4} {
		for _, s := range short("aB/;=\"\\ \t\x00", n) {
			want, code := parsed(ahead + s)
			checkParse(t, ahead+s, want, code)
			if code == 0 {
				checkThereAndBack(t, want)
			}
		}
	}
}

func TestGet(t *testing.T) {
	m := media("a", "b", "1", "c", "", "bb", "3", "b", "4", "D", "5", "", "6", "e f\x00", "\x00")
	checkGet(t, m, "b", "1", true)
	checkGet(t, m, "c", "", true)
	checkGet(t, m, "bb", "3", true)
	checkGet(t, m, "D", "5", true)
	checkGet(t, m, "", "6", true)
	checkGet(t, m, "e f\x00", "\x00", true)
	for _, name := range []string{"B", "C", "d", "BB", "bbb", "b ", " b", "a", "1", "e", "E f\x00", "\x00"} {
		checkGet(t, m, name, "", false)
	}
	behind := media("a", "b", "1", "c", "2")
	for _, l := range [][]api.Param{nil, {}, behind.Params[:0]} {
		checkGet(t, api.Media{Word: "b", Params: l}, "b", "", false)
		checkGet(t, api.Media{Word: "b", Params: l}, "", "", false)
	}
	checkGet(t, api.Media{Params: behind.Params[:1]}, "c", "", false)
	checkGet(t, api.Media{Params: behind.Params[:1]}, "b", "1", true)
	long, _ := many(1000)
	checkGet(t, long, "p999", "999", true)
	checkGet(t, long, "p1000", "", false)
}

func TestTextOrdinary(t *testing.T) {
	checkText(t, media("a"), "a", 0)
	checkText(t, api.Media{Word: "text/plain", Params: []api.Param{}}, "text/plain", 0)
	checkText(t, media("text/plain", "charset", "UTF-8"), "text/plain; charset=UTF-8", 0)
	checkText(t, media("form-data", "name", "a b", "filename", "c.txt"), `form-data; name="a b"; filename=c.txt`, 0)
	checkText(t, media("a", "b", "1", "a", "1", "bb", "1"), "a; b=1; a=1; bb=1", 0)
	low := strings.ToLower(tokens)
	checkText(t, media(low+"/"+low, low, tokens), low+"/"+low+"; "+low+"="+tokens, 0)
}

func TestTextWords(t *testing.T) {
	for _, word := range []string{"", " ", "a ", " a", "\ta", "a b", "/", "a/", "/b", "a//b", "a/b/", "a/b/c", "a /b", "a/ b", "a;b", "a;b=c", "a=b", `"a"`, "a\\",
		"A", "aB", "A/b", "a/B", "Text/plain", "a\x00", "\x7f", "a\n", "a\x80", "é", "\u212a"} {
		checkText(t, api.Media{Word: word}, "", api.ErrForm)
		checkText(t, media(word, "b", "c"), "", api.ErrForm)
	}
}

func TestTextNames(t *testing.T) {
	for _, name := range []string{"", " ", "b ", " b", "b c", "b\t", "b/c", "/", "b=", "=", "b;", `"b"`, "\\", "B", "bC", "Bc", "b\x00", "\x7f", "b\r\n", "b\x80", "é"} {
		checkText(t, media("a", name, "c"), "", api.ErrName)
		checkText(t, media("a", "b", "c", name, "c"), "", api.ErrName)
	}
}

func TestTextValues(t *testing.T) {
	for value, want := range map[string]string{
		"": `""`, " ": `" "`, "\t": "\"\t\"", "c": "c", "C": "C", "cD": "cD", "c d": `"c d"`, "c ": `"c "`, " c": `" c"`, "c/d": `"c/d"`, ";": `";"`,
		"=": `"="`, "c;d=e": `"c;d=e"`, `"`: `"\""`, `\`: `"\\"`, `""`: `"\"\""`, `\\`: `"\\\\"`, `\"`: `"\\\""`, `c"d\e`: `"c\"d\\e"`, `"c"`: `"\"c\""`,
		"'": "'", "%41": "%41", "c,d": `"c,d"`, "\x80": "\"\x80\"", "c\xff": "\"c\xff\"", "é": `"é"`, tokens: tokens, `\n`: `"\\n"`,
	} {
		checkText(t, media("a", "b", value), "a; b="+want, 0)
		checkText(t, media("a", "b", value, "c", value), "a; b="+want+"; c="+want, 0)
		checkThereAndBack(t, media("a", "b", value, "c", value))
	}
	for _, value := range []string{"\x00", "\x01", "\x08", "\n", "\v", "\r", "\x1f", "\x7f", "c\x00", "\x00c", "c\x7fd", "\"\n\"", "\\\r"} {
		checkText(t, media("a", "b", value), "", api.ErrChar)
		checkText(t, media("a", "b", "c", "d", value), "", api.ErrChar)
	}
}

// Every byte as a word, as a name and as a value.
func TestTextOfEveryByte(t *testing.T) {
	for c := range 256 {
		s := string([]byte{byte(c)})
		small := strings.Contains(tokens, s) && (c < 'A' || c > 'Z')
		word, wordCode, text, nameCode := "", api.ErrForm, "", api.ErrName
		if small {
			word, wordCode, text, nameCode = s, 0, "a; "+s+"=b", 0
		}
		checkText(t, api.Media{Word: s}, word, wordCode)
		checkText(t, media("a", s, "b"), text, nameCode)
		value, code := "a; b=\""+s+"\"", 0
		switch {
		case c < 32 && c != 9 || c == 127:
			value, code = "", api.ErrChar
		case strings.Contains(tokens, s):
			value = "a; b=" + s
		case c == '"' || c == '\\':
			value = "a; b=\"\\" + s + "\""
		}
		checkText(t, media("a", "b", s), value, code)
		checkThereAndBack(t, media("a", "b", s))
	}
}

func TestTextMany(t *testing.T) {
	for n := range api.MaxParams + 1 {
		m, s := many(n)
		checkText(t, m, s, 0)
	}
	for _, n := range []int{api.MaxParams + 1, api.MaxParams + 2, 100} {
		m, _ := many(n)
		checkText(t, m, "", api.ErrMany)
	}
	// What lies behind the list's length counts for nothing.
	m, s := many(api.MaxParams)
	whole, _ := many(api.MaxParams + 1)
	m.Params = whole.Params[:api.MaxParams]
	checkText(t, m, s, 0)
}

func TestTextTwice(t *testing.T) {
	checkText(t, media("a", "b", "1", "b", "1"), "", api.ErrTwice)
	checkText(t, media("a", "b", "1", "b", "2"), "", api.ErrTwice)
	checkText(t, media("a", "b", "1", "c", "2", "b", "3"), "", api.ErrTwice)
	checkText(t, media("a", "c", "1", "b", "2", "b", ""), "", api.ErrTwice)
	checkText(t, media("a", "b", "1", "c", "1"), "a; b=1; c=1", 0)
	for i := range api.MaxParams - 1 {
		m, _ := many(api.MaxParams)
		m.Params[api.MaxParams-1].Name = m.Params[i].Name
		checkText(t, m, "", api.ErrTwice)
	}
}

func TestTextFaultsInTheirOrder(t *testing.T) {
	tooMany, _ := many(api.MaxParams + 1)
	tooMany.Word = "A"
	checkText(t, tooMany, "", api.ErrForm)
	tooMany.Word, tooMany.Params[0].Name = "a", "B"
	checkText(t, tooMany, "", api.ErrMany)
	tooMany.Params[0].Name = tooMany.Params[1].Name
	checkText(t, tooMany, "", api.ErrMany)
	tooMany.Params[0] = api.Param{Name: "b", Value: "\x00"}
	checkText(t, tooMany, "", api.ErrMany)
	checkText(t, media("A", "B", "\x00"), "", api.ErrForm)
	checkText(t, media("a/", "b", "1", "b", "2"), "", api.ErrForm)
	checkText(t, media("a", "B", "\x00"), "", api.ErrName)
	checkText(t, media("a", "B", "1", "B", "2"), "", api.ErrName)
	checkText(t, media("a", "b", "1", "B", "2"), "", api.ErrName)
	checkText(t, media("a", "b", "1", "b", "\x00"), "", api.ErrTwice)
	// Parameter by parameter: the first one's fault is told.
	checkText(t, media("a", "b", "\x00", "B", "1"), "", api.ErrChar)
	checkText(t, media("a", "b", "\x00", "b", "1"), "", api.ErrChar)
	checkText(t, media("a", "b", "1", "b", "2", "B", "3"), "", api.ErrTwice)
	checkText(t, media("a", "b", "1", "c", "\x00", "b", "2"), "", api.ErrChar)
	checkText(t, media("a", "B", "1", "c", "\x00"), "", api.ErrName)
}

func TestTextOfShortValues(t *testing.T) {
	texts := short("aB/;=\"\\ \t\x00", 2)
	values := short("aB\"\\ \x7f", 3)
	for _, s := range texts {
		for _, v := range values {
			for _, m := range []api.Media{media(s, "b", v), media("a/b", s, v), media("a", "a", v, s, v), media("a", "b", s, "c", v), media(s, s, v, s, s)} {
				want, code := written(m)
				checkText(t, m, want, code)
				checkThereAndBack(t, m)
			}
		}
	}
}

func TestThereAndBack(t *testing.T) {
	full, _ := many(api.MaxParams)
	for i := range full.Params {
		full.Params[i].Value = strings.Repeat(`"\;= `, i)
	}
	long := strings.Repeat("n", 10000)
	for _, m := range []api.Media{
		media("a"), media("text/plain"), media("form-data", "name", "a", "filename", "b c"), media("a", "b", ""), media("a", "b", " c\t"),
		media("a", "b", `\"`, "c", `"`, "d", `\`), media("a", "b", "x;c=y"), media("a", "b", "\x80\xffÉ"), media("0", "!", "Z"), full,
		media(long+"/"+long, long, strings.Repeat(`\"Z `, 10000), long+"x", long),
	} {
		if _, code := Text(m); code != 0 {
			t.Errorf("Text(%.60q): code %d", m, code)
		}
		checkThereAndBack(t, m)
	}
	for s, want := range map[string]string{" A ;B=c": "a; b=c", `a;b="c"`: "a; b=c", `a;b="\c d"`: `a; b="c d"`, `a;b=""`: `a; b=""`, "a\t;\tb=c\t;D=e ": "a; b=c; d=e"} {
		m, _ := Parse(s)
		checkText(t, m, want, 0)
	}
}

// within: does a text lie in the memory of another one?
func within(s, of string) bool {
	if s == "" || of == "" {
		return false
	}
	from, at := uintptr(unsafe.Pointer(unsafe.StringData(of))), uintptr(unsafe.Pointer(unsafe.StringData(s)))
	return at >= from && at < from+uintptr(len(of))
}

func TestAnswersShareNoMemory(t *testing.T) {
	for _, s := range []string{"word", "text/plain", "word;name=value", `Word; Name="value"; other=Value`} {
		m, _ := Parse(s)
		text, _ := Text(m)
		if within(m.Word, s) || within(text, m.Word) {
			t.Errorf("a word of %q shares the memory of an argument", s)
		}
		for _, p := range m.Params {
			value, _ := Get(m, p.Name)
			if within(p.Name, s) || within(p.Value, s) || within(value, p.Value) || within(text, p.Value) {
				t.Errorf("a parameter of %q shares the memory of an argument", s)
			}
		}
	}
}

// What is handed in stays as it is, also behind its length, and what was
// answered is not touched by a later call.
func TestListsAreNeitherChangedNorKept(t *testing.T) {
	whole := []api.Param{{Name: "b", Value: `"1"`}, {Name: "c", Value: "2"}, {Name: "B", Value: "\x00"}}
	before := slices.Clone(whole)
	m := api.Media{Word: "a", Params: whole[:2]}
	checkText(t, m, `a; b="\"1\""; c=2`, 0)
	checkGet(t, m, "c", "2", true)
	checkGet(t, m, "B", "", false)
	if !slices.Equal(whole, before) {
		t.Errorf("the list became %q", whole)
	}
	text, _ := Text(m)
	m.Params[1].Value = "3"
	if text != `a; b="\"1\""; c=2` {
		t.Errorf("the answer changed with the list: %q", text)
	}
	checkGet(t, m, "c", "3", true)
	first, _ := Parse("a;b=1;c=2")
	second, _ := Parse("a;b=1;c=2")
	second.Params[0].Value = "changed"
	if want := media("a", "b", "1", "c", "2"); !same(first, want) {
		t.Errorf("two answers share their memory: %q", first)
	}
	checkParse(t, "a;b=1;c=2", media("a", "b", "1", "c", "2"), 0)
}

// P1: a panic or a call without an end fails here, whatever is given.
func TestEveryTextIsAnsweredAlike(t *testing.T) {
	var texts []string
	for c := range 256 {
		s := string([]byte{byte(c)})
		texts = append(texts, s, strings.Repeat(s, 10000), "a;b=\""+strings.Repeat(s, 10001), "a;b=\"\\"+s+"\"")
	}
	for _, s := range []string{"", "a;", ";b=c", "a/", "\\\"", "\r\n", " \t", "b=c;", "é"} {
		texts = append(texts, strings.Repeat(s, 100000), "a;"+strings.Repeat(s, 100000), "a;b=\""+strings.Repeat(s, 100000)+"\"")
	}
	ask := func(s string) []any {
		m, c := Parse(s)
		text, d := Text(m)
		word, e := Text(media(s, s, s))
		name, f := Text(media("a", s, s, s, s))
		value, g := Text(media("a", "b", s, "c", s))
		got, ok := Get(media(s, s, s), s)
		return []any{m.Word, len(m.Params), c, text, d, word, e, name, f, value, g, got, ok}
	}
	first := make([][]any, len(texts))
	for i, s := range texts {
		first[i] = ask(s)
	}
	for i := len(texts) - 1; i >= 0; i-- {
		if !slices.Equal(ask(texts[i]), first[i]) {
			t.Errorf("%.20q is answered in two ways", texts[i])
		}
	}
	var nothing api.Media
	checkText(t, nothing, "", api.ErrForm)
	checkGet(t, nothing, "", "", false)
}
