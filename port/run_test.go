package port

import (
	"fmt"
	"slices"
	"testing"

	"lighterage/api"
)

// script: steps of each kind, some of which have codes.
func script() []api.Step {
	return []api.Step{
		in(0, create("Upload-Length: 3", "Upload-Metadata: m")), send(1), in(1, begunPiece(1, 0, "ab")), gone(1), crash(0),
		in(0, patch(1, 2, "c")+form(file("f", "bytes"))), send(1), send(1), crash(5), taken(1), taken(1), send(2),
		in(2, "x\r\n"), in(2, ""), gone(2), in(2, ask("GET", "/", "")), in(4, ""), gone(-1), {}, {Kind: 6}, in(3, "GET"), crash(-1), in(3, "\n"), taken(2),
	}
}

func scriptTold() []Out {
	return []Out{
		answers(createdAt(1)), fails(api.ErrShort), {}, {}, {},
		answers(offsetAt(3) + told("201 Created", "2 f\n")), goes(1, "m", "abc"), fails(api.ErrSent), {}, {}, fails(api.ErrSent), goes(2, "filename f", "bytes"),
		answers(told("400 Bad Request", "")), fails(api.ErrDone), {}, answers(told("404 Not Found", "")), fails(api.ErrRange), fails(api.ErrRange), fails(api.ErrKind), fails(api.ErrKind), {}, {}, answers(told("400 Bad Request", "")), {},
	}
}

func showAll(l []Out) string {
	out := ""
	for _, o := range l {
		out += show(o) + "\n"
	}
	return out
}

// runs: a script comes to that.
func runs(t *testing.T, l []api.Step, want []Out) {
	t.Helper()
	got, code := Run(l)
	if code != 0 || showAll(got) != showAll(want) {
		t.Errorf("Run of %d steps: %s, %d, want %s", len(l), short(showAll(got)), code, short(showAll(want)))
	}
}

// Each beginning of a script, in one Run and step by step.
func TestRunBesideDo(t *testing.T) {
	for n := range len(script()) + 1 {
		runs(t, script()[:n], scriptTold()[:n])
		p := New()
		var l []Out
		for _, x := range script()[:n] {
			l = append(l, p.Do(x))
		}
		runs(t, script()[:n], l)
	}
}

// Each Run is from the beginning: it knows of no other one.
func TestRunFromTheBeginning(t *testing.T) {
	l := []api.Step{send(1), in(0, form(file("a", "b"))), send(1)}
	want := []Out{fails(api.ErrNone), answers(told("201 Created", "1 a\n")), goes(1, "filename a", "b")}
	for range 3 {
		runs(t, l, want)
		runs(t, []api.Step{in(0, "GET")}, []Out{{}})
		runs(t, []api.Step{in(1, "\n")}, []Out{answers(told("400 Bad Request", ""))})
	}
}

func TestHowManySteps(t *testing.T) {
	runs(t, nil, nil)
	runs(t, []api.Step{}, nil)
	one := ask("GET", "/", "")
	for _, n := range []int{1, 2, 399, 400} {
		l := slices.Repeat([]api.Step{in(0, one)}, n)
		runs(t, l, slices.Repeat([]Out{answers(told("404 Not Found", ""))}, n))
		runs(t, make([]api.Step, n), slices.Repeat([]Out{fails(api.ErrKind)}, n))
		// What stands behind a list's length is none of it.
		runs(t, append(l, l...)[:n], slices.Repeat([]Out{answers(told("404 Not Found", ""))}, n))
	}
	for _, n := range []int{401, 402, 800, 1 << 20} {
		for _, x := range []api.Step{{}, in(0, one), in(9, ""), send(1)} {
			if got, code := Run(slices.Repeat([]api.Step{x}, n)); len(got) != 0 || code != api.ErrMany {
				t.Errorf("Run of %d steps: %d, %d, want the code %d", n, len(got), code, api.ErrMany)
			}
		}
	}
	// So many steps, each with something to do.
	l := []api.Step{in(0, create("Upload-Length: 399")), in(0, ask("GET", "/", ""))}
	want := []Out{answers(createdAt(1)), answers(told("404 Not Found", ""))}
	for i := range 398 {
		l = append(l, in(i%4, patch(1, i, "x")))
		want = append(want, answers(offsetAt(i+1)))
	}
	runs(t, l, want)
}

// What a Run answers shares no memory, and what is handed in stays as it is.
func TestMemoryOfRun(t *testing.T) {
	l := append(script(), in(0, "behind"))
	was := fmt.Sprint(l)
	got, code := Run(l[:len(script())])
	if code != 0 || fmt.Sprint(l) != was {
		t.Errorf("what was handed in became %s, %d", short(fmt.Sprint(l)), code)
	}
	for _, x := range l {
		clear(x.Bytes)
	}
	clear(l)
	if showAll(got) != showAll(scriptTold()) {
		t.Errorf("what was answered became %s", short(showAll(got)))
	}
	for i := range got {
		was := showAll(slices.Concat(got[:i], got[i+1:]))
		clear(append(got[i].Bytes, "more"...))
		clear(append(got[i].Up, "more"...))
		clear(got[i].Bytes[:cap(got[i].Bytes)])
		clear(got[i].Up[:cap(got[i].Up)])
		if now := showAll(slices.Concat(got[:i], got[i+1:])); now != was {
			t.Errorf("what the step %d came to shares memory", i)
		}
	}
}

// P1: a great deal at once, and steps that could do harm, come to an end.
func TestMuch(t *testing.T) {
	p := New()
	one := ask("GET", "/", "")
	const n = 1 << 15
	all := make([]byte, 0, n*len(one))
	for range n {
		all = append(all, one...)
	}
	out := p.Do(api.Step{Kind: api.SBytes, Conn: 3, Bytes: all})
	if want := n * len(told("404 Not Found", "")); len(out.Bytes) != want || out.Code != 0 {
		t.Errorf("%d bytes are answered, %d, want %d", len(out.Bytes), out.Code, want)
	}
	says(t, p, in(2, some(1<<20)), answers(told("413 Content Too Large", "")))
	for range 1 << 15 {
		p.Do(send(1))
		p.Do(taken(1))
		p.Do(crash(1))
		p.Do(gone(1))
		p.Do(api.Step{Kind: 9})
	}
	trails(t, p)
}
