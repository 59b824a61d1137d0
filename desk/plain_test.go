package desk

import (
	"fmt"
	"math/rand/v2"
	"regexp"
	"slices"
	"strconv"
	"strings"
	"testing"

	"lighterage/api"
	"lighterage/port"
)

// What stands here is the chapter read plainly: the program is held against
// it.

var aStep = regexp.MustCompile(`(?s)^(?:(bytes) (0|[1-9][0-9]{0,8}) (.*)|(drop|send|told|crash) (0|[1-9][0-9]{0,8}))$`)

// plain tells what a line tells of a port.
func plain(p *port.Port, line string) string {
	switch line {
	case "":
		return ""
	case "list":
		told := ""
		for _, u := range p.List() {
			told += fmt.Sprintf("upload %d %d %d %d %s\n", u.ID, u.Size, len(u.Bytes), u.Sent, plainShow([]byte(u.Meta)))
		}
		return told + "end\n"
	case "log":
		log, sure := p.Log()
		return fmt.Sprintf("log %d %d\n", len(log), sure)
	}
	m := aStep.FindStringSubmatch(line)
	if m == nil {
		return "what\n"
	}
	n, _ := strconv.Atoi(m[2] + m[5])
	x := api.Step{Kind: slices.Index([]string{"", "bytes", "drop", "send", "told", "crash"}, m[1]+m[4])}
	if x.Kind == api.SBytes || x.Kind == api.SDrop {
		x.Conn = n
	} else {
		x.N = n
	}
	if x.Kind == api.SBytes {
		b, ok := plainMean(m[3])
		if !ok {
			return "what\n"
		}
		x.Bytes = b
	}
	switch o := p.Do(x); {
	case o.Code != 0:
		return fmt.Sprintf("no %d\n", o.Code)
	case len(o.Up) > 0:
		return "up " + plainShow(o.Up) + "\n"
	case len(o.Bytes) > 0:
		return "out " + plainShow(o.Bytes) + "\n"
	}
	return "ok\n"
}

// both: a desk, and a port to which the same is done.
type both struct {
	d *Desk
	p *port.Port
}

func newBoth() both { return both{New(), port.New()} }

// do: those lines, told by both. What they tell is answered.
func (b both) do(t *testing.T, lines ...string) string {
	t.Helper()
	want := ""
	for _, line := range lines {
		want += plain(b.p, line)
	}
	told, f := b.d.Do(lines)
	if told != want || f != (api.Fault{}) {
		t.Fatalf("%s: %s, %v, want %s", quote(strings.Join(lines, "\n")), quote(told), f, quote(want))
	}
	if got, want := state(b.d), state(&Desk{Port: b.p}); got != want {
		t.Fatalf("%s: %s, want %s", quote(strings.Join(lines, "\n")), quote(got), quote(want))
	}
	return told
}

// Some lines in each order, behind an upload and behind nothing.
func TestAllShortScripts(t *testing.T) {
	lines := []string{
		"", "list", "log", "what", in(0, create(length(1))), in(1, patch(1, 0, 1, "a")), in(1, patch(1, 0, 1, "")), in(1, "b"), in(2, other("DELETE", 1)),
		"drop 1", "send 1", "told 1", "crash 0", "crash 9", "bytes 1 ", "bytes 4 ", `bytes 1 \`, "send  1",
	}
	for _, a := range lines {
		for _, b := range lines {
			for _, c := range lines {
				newBoth().do(t, a, b, c)
				ahead := newBoth()
				ahead.do(t, lines[4], lines[6])
				ahead.do(t, a)
				ahead.do(t, b, c)
			}
		}
	}
}

// world: what asks a desk in lines that look like any, and are the same each
// time.
type world struct {
	both
	*rand.Rand
	rest [4]string // what is still to come of a request on a connection
}

func newWorld(seed int) *world {
	return &world{both: newBoth(), Rand: rand.New(rand.NewPCG(uint64(seed), 17))}
}

func (w *world) of(l ...string) string { return l[w.IntN(len(l))] }

// upload: one that there is, most often, and so many bytes are missing.
func (w *world) upload() (api.Upload, int) {
	l := w.p.List()
	if len(l) == 0 || w.IntN(12) == 0 {
		return api.Upload{ID: w.p.Next() - w.IntN(3)}, 0
	}
	u := l[w.IntN(len(l))]
	if u.Size < 0 {
		return u, w.IntN(4)
	}
	return u, u.Size - len(u.Bytes)
}

// request: one, as bytes.
func (w *world) request() string {
	u, missing := w.upload()
	text := ""
	switch w.IntN(9) {
	case 0, 1:
		text = create(w.of(length(0), length(2), length(40), later), w.of("", meta("m"), meta(`a \x09\\\xff`)))
	case 2:
		text = form(2*62+2+7, file("b", `\x00`+some(5)), file(`/`, `\`+`\`))
	case 3:
		text = other(w.of("HEAD", "DELETE", "PUT"), u.ID)
	case 4:
		text = w.of(get, `\r\n`, `x\n`, `GET / HTTP/1.1\r\n\r\n`, some(201))
	default:
		n := min(missing, w.IntN(50))
		tail := some(max(n-2, 0)) + [...]string{"", `\n`, `\xff `}[min(n, 2)]
		text = patch(u.ID, len(u.Bytes), n, tail)
		if u.Size < 0 && w.IntN(2) == 0 {
			text = patch(u.ID, len(u.Bytes), n, tail, length(len(u.Bytes)+n))
		}
	}
	b, _ := plainMean(text)
	return string(b)
}

// shown: bytes as a text that means them, in one of several ways.
func (w *world) shown(s string) string {
	switch w.IntN(3) {
	case 0:
		return plainShow([]byte(s))
	case 1:
		return strings.ReplaceAll(strings.ReplaceAll(s, `\`, `\\`), "\n", `\x0A`)
	}
	text := ""
	for _, c := range []byte(s) {
		if w.IntN(8) == 0 {
			text += fmt.Sprintf(w.of(`\x%02x`, `\x%02X`), c)
			continue
		}
		text += plainShow([]byte{c})
	}
	return text
}

// line: one, of any kind.
func (w *world) line() string {
	u, _ := w.upload()
	k := w.IntN(4)
	switch w.IntN(20) {
	case 0:
		return w.of("list", "log", "")
	case 1:
		return w.spoilt(w.of("list", "log", "send 1", "told 1", "drop 0", "crash 0", "bytes 1 a", "bytes 2 "))
	case 2, 3, 4:
		return fmt.Sprint("send ", u.ID)
	case 5, 6:
		return fmt.Sprint("told ", u.ID)
	case 7:
		w.rest[k] = ""
		return fmt.Sprint("drop ", k)
	case 8:
		w.rest = [4]string{}
		return w.of("crash 0", "crash 5", "crash 999999999")
	case 9:
		return w.of("drop 4", "bytes 5 x", "send 0", "told 999999999", `bytes 0 \q`)
	}
	if w.rest[k] == "" {
		w.rest[k] = w.request()
	}
	n := len(w.rest[k])
	if w.IntN(3) == 0 {
		n = w.IntN(n + 1)
	}
	text := w.rest[k][:n]
	w.rest[k] = w.rest[k][n:]
	return in(k, w.shown(text))
}

// spoilt: a line with a byte more, one less, or another one.
func (w *world) spoilt(s string) string {
	i := w.IntN(len(s))
	c := w.of(" ", "0", "1", "x", "-", "\t", "\\", "\x00")
	return w.of(s[:i]+c+s[i:], s[:i]+s[i+1:], s[:i]+c+s[i+1:], s+c)
}

// Whatever lines come, they tell what the chapter says.
func TestLongWalks(t *testing.T) {
	met := map[string]int{}
	for seed := range 150 {
		w := newWorld(seed)
		for range 200 {
			for told := range strings.Lines(w.do(t, w.line())) {
				word, rest, _ := strings.Cut(strings.TrimSuffix(told, "\n"), " ")
				switch {
				case word == "no":
					word += " " + rest
				case word == "out":
					word += " " + rest[9:12]
				}
				met[word]++
			}
		}
	}
	for what, least := range map[string]int{"up": 300, "ok": 3000, "what": 500, "upload": 500, "end": 200, "log": 200, "out 200": 50, "out 201": 500, "out 204": 500, "out 400": 100, "out 404": 100, "out 507": 50,
		"no 1": 100, "no 10": 200, "no 14": 200, "no 18": 100, "no 19": 500} {
		if met[what] < least {
			t.Errorf("%s was told %d times", what, met[what])
		}
	}
}

// What lines tell by several Do is what they tell by one, wherever they are cut.
func TestLinesCutAnywhere(t *testing.T) {
	for seed := range 40 {
		w := newWorld(1000 + seed)
		var lines []string
		told := ""
		for range 60 {
			line := w.line()
			lines = append(lines, line)
			told += w.do(t, line)
		}
		end := state(w.d)
		for at := range len(lines) + 1 {
			d := New()
			a, f := d.Do(lines[:at])
			b, g := d.Do(lines[at:])
			if a+b != told || f != (api.Fault{}) || g != (api.Fault{}) || state(d) != end {
				t.Fatalf("lines %d, cut at %d: %s, %v, and %s, %v, want %s", seed, at, quote(a), f, quote(b), g, quote(told))
			}
		}
		d, again := New(), ""
		for rest := lines; len(rest) > 0; {
			n := 1 + w.IntN(min(len(rest), 7))
			part, _ := d.Do(rest[:n])
			again += part
			rest = rest[n:]
		}
		if again != told || state(d) != end {
			t.Fatalf("lines %d in pieces: %s, want %s", seed, quote(again), quote(told))
		}
	}
}

// Two desks that are asked in turn tell what each of them tells alone.
func TestWalksBesideEachOther(t *testing.T) {
	for seed := range 20 {
		a, b := newWorld(2000+seed), newWorld(3000+seed)
		for range 100 {
			was := state(b.d)
			a.do(t, a.line())
			if now := state(b.d); now != was {
				t.Fatalf("another desk became %s, was %s", quote(now), quote(was))
			}
			if a.IntN(3) > 0 {
				a, b = b, a
			}
		}
	}
}
