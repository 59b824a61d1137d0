package chunks

import (
	"strings"

	"lighterage/api"
	"lighterage/chars"
	"lighterage/fields"
	"lighterage/lines"
)

// What the next line is.
const (
	sizeLine  = iota
	endLine   // the empty one behind a chunk's bytes
	fieldLine // or the empty one that ends the body
)

// reader is a reader of lines that knows what each of them is in a body.
type reader struct {
	*lines.Lines
	next   int
	left   int // bytes of a chunk that come ahead of the next line
	room   int // bytes that the body may have beyond the chunks so far
	fields int // how many came; what they say is told nowhere
}

// take takes a line for what stands at its place. It tells whether the body is
// over by it, or a code.
func (r *reader) take(line string) (bool, int) {
	switch {
	case r.next == sizeLine:
		return false, r.size(line)
	case r.next == endLine:
		return false, r.end(line)
	case line == "":
		return true, 0
	}
	return false, r.field(line)
}

func (r *reader) size(line string) int {
	ahead, _, _ := strings.Cut(line, ";")
	n, ok := chars.HexNumber(chars.Trim(ahead))
	switch {
	case !ok:
		return api.ErrNumber
	case n > r.room:
		return api.ErrLong
	case n == 0:
		r.next = fieldLine
		return 0
	}
	r.next, r.left, r.room = endLine, n, r.room-n
	return 0
}

func (r *reader) end(line string) int {
	if line != "" {
		return api.ErrForm
	}
	r.next = sizeLine
	return 0
}

// field counts a line ahead of reading it: behind MaxFields fields one more is
// too many, whatever it says.
func (r *reader) field(line string) int {
	if r.fields == api.MaxFields {
		return api.ErrMany
	}
	r.fields++
	_, code := fields.Parse(line)
	return code
}
