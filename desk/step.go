package desk

import (
	"strconv"
	"strings"

	"lighterage/api"
	"lighterage/chars"
)

// stepOf reads a line as a step of the port. False: it is none.
func stepOf(line string) (api.Step, bool) {
	word, rest, _ := strings.Cut(line, " ")
	if word == "bytes" {
		return bytesOf(rest)
	}
	n, ok := number(rest)
	if !ok {
		return api.Step{}, false
	}
	switch word {
	case "drop":
		return api.Step{Kind: api.SDrop, Conn: n}, true
	case "send":
		return api.Step{Kind: api.SSend, N: n}, true
	case "told":
		return api.Step{Kind: api.STold, N: n}, true
	case "crash":
		return api.Step{Kind: api.SCrash, N: n}, true
	}
	return api.Step{}, false
}

// bytesOf reads a connection and a text as bytes that come in. The text may be
// empty, but not the blank ahead of it.
func bytesOf(s string) (api.Step, bool) {
	digits, text, there := strings.Cut(s, " ")
	k, isNumber := number(digits)
	b, isText := Mean(text)
	if !there || !isNumber || !isText {
		return api.Step{}, false
	}
	return api.Step{Kind: api.SBytes, Conn: k, Bytes: b}, true
}

// number reads a number that is as short as can be. False: it is none.
func number(s string) (int, bool) {
	n, ok := chars.Number(s)
	return n, ok && strconv.Itoa(n) == s
}
