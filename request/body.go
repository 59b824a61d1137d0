package request

import "lighterage/chunks"

// bodyReader reads a body: a byte more brings bytes of it, or none; is it over
// by that byte? Behind its end or a code it is asked nothing any more.
type bodyReader interface {
	Feed(b byte) (came []byte, over bool, code int)
}

// bodyOf answers what reads a body of that length, which is not 0.
func bodyOf(length int) bodyReader {
	if length == inChunks {
		return chunks.New()
	}
	return &counted{left: length}
}

// counted reads a body of which it is known how many bytes are left.
type counted struct{ left int }

func (c *counted) Feed(b byte) ([]byte, bool, int) {
	c.left--
	return []byte{b}, c.left == 0, 0
}
