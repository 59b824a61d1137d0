package request

import (
	"strings"

	"lighterage/api"
	"lighterage/chars"
	"lighterage/fields"
	"lighterage/lines"
)

const (
	versionOne  = "HTTP/1.1"
	versionZero = "HTTP/1.0"

	hostName   = "Host"
	lengthName = "Content-Length"
	codingName = "Transfer-Encoding"
)

// inChunks is the length of a body that comes in chunks.
const inChunks = -1

// reader is a reader of lines that gathers heads of them.
type reader struct {
	*lines.Lines
	head  *api.Head // what came of it; nil: its first line did not
	whole bool      // did its empty line come, too?
}

// take takes a line for what stands at its place in a head.
func (r *reader) take(line string) int {
	switch {
	case r.head == nil && line == "":
		return 0
	case r.head == nil:
		return r.first(line)
	case line == "":
		return r.end()
	}
	return r.field(line)
}

// give answers the head that is whole. It does not keep it, as it is the
// caller's then.
func (r *reader) give() api.Head {
	h := *r.head
	r.head, r.whole = nil, false
	return h
}

func (r *reader) first(line string) int {
	method, rest, _ := strings.Cut(line, " ")
	target, version, _ := strings.Cut(rest, " ")
	switch {
	case strings.Count(line, " ") != 2:
		return api.ErrForm
	case !chars.IsToken(method):
		return api.ErrName
	case !isTarget(target):
		return api.ErrForm
	case version != versionOne && version != versionZero:
		return api.ErrKind
	}
	// Copies, as pieces of the line would share its memory.
	r.head = &api.Head{Method: strings.Clone(method), Target: strings.Clone(target)}
	if version == versionOne {
		r.head.Minor = 1
	}
	return 0
}

// field counts the fields ahead of reading one more: behind MaxFields of them
// it is too many, whatever it says.
func (r *reader) field(line string) int {
	if len(r.head.Fields) == api.MaxFields {
		return api.ErrMany
	}
	f, code := fields.Parse(line)
	if code == 0 {
		r.head.Fields = append(r.head.Fields, f)
	}
	return code
}

func (r *reader) end() int {
	hosts := count(r.head.Fields, hostName)
	if hosts > 1 || hosts == 0 && r.head.Minor == 1 {
		return api.ErrHost
	}
	n, code := length(r.head)
	r.head.Length, r.whole = n, code == 0
	return code
}

// length tells how long the body behind a head is. With two ways to tell it,
// others might go by the other one, and end the request elsewhere.
func length(h *api.Head) (int, int) {
	codings := fields.All(h.Fields, codingName)
	lengths := fields.All(h.Fields, lengthName)
	switch {
	case len(codings) == 0:
		return sameNumber(lengths)
	case len(lengths) > 0, h.Minor == 0:
		return 0, api.ErrLength
	case len(codings) > 1, chars.Lower(codings[0]) != "chunked":
		return 0, api.ErrKind
	}
	return inChunks, 0
}

// sameNumber reads texts that all tell one length; no text tells 0.
func sameNumber(l []string) (int, int) {
	told := 0
	for _, s := range l {
		n, ok := chars.Number(s)
		switch {
		case !ok:
			return 0, api.ErrNumber
		case s != l[0]:
			return 0, api.ErrLength
		}
		told = n
	}
	if told > api.MaxBody {
		return 0, api.ErrLong
	}
	return told, 0
}

// isTarget: may s stand in a first line, between its blanks?
func isTarget(s string) bool {
	return strings.HasPrefix(s, "/") && !strings.ContainsAny(s, " \t") && chars.IsVisible(s)
}

// count tells how many fields have that name.
func count(l []api.Field, name string) int { return len(fields.All(l, name)) }
