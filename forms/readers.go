package forms

import (
	"lighterage/api"
	"lighterage/fields"
	"lighterage/lines"
	"lighterage/seek"
)

// Where a byte of a form stands.
const (
	inBytes      = iota // ahead of the first mark, or among a part's bytes
	behindMark          // with nothing between
	behindStroke        // with one stroke between
	behindBlanks        // with blanks and tabs between
	behindCR            // with a CR between
	inHead
	atEnd // behind two strokes: whatever comes
)

// next answers where the byte behind c stands, which stands behind a mark
// itself, or a code.
func next(place int, c byte) (int, int) {
	switch {
	case place == behindCR && c != '\n':
		return 0, api.ErrLine
	case place == behindCR:
		return inHead, 0
	case place == behindStroke && c == '-':
		return atEnd, 0
	case place == behindMark && c == '-':
		return behindStroke, 0
	case place == behindStroke:
		return 0, api.ErrForm
	case c == ' ', c == '\t':
		return behindBlanks, 0
	case c == '\r':
		return behindCR, 0
	}
	return 0, api.ErrForm
}

// seeker is a seeker of marks that a CR and LF ahead of the bytes may begin.
type seeker struct {
	*seek.Seek
	ahead int // how many bytes of that CR and LF were not answered yet
}

// seekBytes looks for a mark from the beginning of bytes on. The CR and LF
// begin each mark, so that they are held.
func (s *seeker) seekBytes() {
	for i := range len(lineEnd) {
		s.Seek.Feed(lineEnd[i])
	}
	s.ahead = len(lineEnd)
}

// Feed is the Seek's, but for the CR and LF, which are none of the bytes.
func (s *seeker) Feed(c byte) ([]byte, bool) {
	came, found := s.Seek.Feed(c)
	n := min(s.ahead, len(came))
	s.ahead -= n
	return came[n:], found
}

// head is a reader of lines that gathers a part's fields of them.
type head struct {
	*lines.Lines
	fields []api.Field
}

// field counts the fields ahead of reading one more: behind MaxFields of them
// it is too many, whatever it says.
func (h *head) field(line string) int {
	if len(h.fields) == api.MaxFields {
		return api.ErrMany
	}
	f, code := fields.Parse(line)
	if code == 0 {
		h.fields = append(h.fields, f)
	}
	return code
}

// give answers the fields, and begins anew.
func (h *head) give() []api.Field {
	l := h.fields
	h.fields = nil
	return l
}

// told gathers events as request.Join leaves them: bytes wait for what comes
// behind them, so that an event need not be made of each byte.
type told struct {
	events []api.Event
	bytes  []byte
}

func (t *told) addBytes(b []byte) { t.bytes = append(t.bytes, b...) }

func (t *told) add(e api.Event) { t.events = append(t.all(), e) }

// all answers the events, with those of bytes that waited.
func (t *told) all() []api.Event {
	if len(t.bytes) > 0 {
		t.events = append(t.events, api.Event{Kind: api.EBody, Bytes: t.bytes})
		t.bytes = nil
	}
	return t.events
}
