package params

import (
	"strings"

	"lighterage/api"
	"lighterage/chars"
)

// gaveUp is what a reader panics with: the code of its fault.
type gaveUp int

// caught answers the code that a reading gave up with, or 0. A panic that is
// no reader's own is a fault of the program, and is not hidden.
func caught(read func()) (code int) {
	defer func() {
		if why := recover(); why != nil {
			code = int(why.(gaveUp))
		}
	}()
	read()
	return 0
}

// reader goes through a text. Its methods read what they are named after from
// where it stands, or give up.
type reader struct {
	text string
	at   int
}

func (r *reader) media() api.Media {
	r.blanks()
	m := api.Media{Word: r.word()}
	for r.blanks(); r.more(); r.blanks() {
		r.need(';')
		r.blanks()
		p := r.param()
		admit(p, m.Params)
		m.Params = append(m.Params, p)
	}
	return m
}

// admit gives up, if a parameter may not stand behind those ahead of it.
func admit(p api.Param, ahead []api.Param) {
	if find(ahead, p.Name) >= 0 {
		panic(gaveUp(api.ErrTwice))
	}
	if len(ahead) >= api.MaxParams {
		panic(gaveUp(api.ErrMany))
	}
}

func (r *reader) word() string {
	word := r.token()
	if r.skip('/') {
		word += "/" + r.token()
	}
	return chars.Lower(word)
}

func (r *reader) param() api.Param {
	name := chars.Lower(r.token())
	r.need('=')
	if r.skip('"') {
		return api.Param{Name: name, Value: r.quoted()}
	}
	// A copy, as a piece of the text would share its memory.
	return api.Param{Name: name, Value: strings.Clone(r.token())}
}

// quoted reads what stands behind a ", with the " that ends it.
func (r *reader) quoted() string {
	var b []byte
	for {
		c := r.inner()
		if c == '"' {
			return string(b)
		}
		if c == '\\' {
			c = r.inner()
		}
		b = append(b, c)
	}
}

// inner reads a byte of a quoted text, in which the text may not end.
func (r *reader) inner() byte {
	if !r.more() {
		panic(gaveUp(api.ErrShort))
	}
	r.at++
	return r.text[r.at-1]
}

func (r *reader) token() string {
	s := r.run(chars.Token)
	if s == "" {
		panic(gaveUp(api.ErrForm))
	}
	return s
}

func (r *reader) blanks() {
	r.run(func(c byte) bool { return c == ' ' || c == '\t' })
}

// run reads bytes, as many as are of that kind.
func (r *reader) run(is func(byte) bool) string {
	from := r.at
	for r.more() && is(r.text[r.at]) {
		r.at++
	}
	return r.text[from:r.at]
}

func (r *reader) need(c byte) {
	if !r.skip(c) {
		panic(gaveUp(api.ErrForm))
	}
}

// skip goes beyond that byte, if it is the next one.
func (r *reader) skip(c byte) bool {
	if !r.more() || r.text[r.at] != c {
		return false
	}
	r.at++
	return true
}

func (r *reader) more() bool { return r.at < len(r.text) }
