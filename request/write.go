package request

import (
	"slices"
	"strconv"
	"strings"

	"lighterage/api"
	"lighterage/chars"
	"lighterage/fields"
)

const lineEnd = "\r\n"

// Write writes a request. Neither the version nor the length is taken from the
// head: the body itself tells how long it is.
func Write(h api.Head, body []byte) ([]byte, int) {
	first := strings.Join([]string{h.Method, h.Target, versionOne}, " ")
	if code := fault(h, first, body); code != 0 {
		return nil, code
	}
	length := api.Field{Name: lengthName, Value: strconv.Itoa(len(body))}
	out := []byte(first + lineEnd)
	for _, f := range append(slices.Clone(h.Fields), length) {
		text, code := fields.Text(f)
		if code != 0 {
			return nil, code
		}
		out = append(out, text+lineEnd...)
	}
	out = append(out, lineEnd...)
	return append(out, body...), 0
}

// fault tells why a request can't be written, whatever the texts of its fields
// are. One field less than a head may have is allowed, as the length is one.
func fault(h api.Head, first string, body []byte) int {
	switch {
	case !chars.IsToken(h.Method):
		return api.ErrName
	case !isTarget(h.Target):
		return api.ErrForm
	case len(first) > api.MaxLine, len(body) > api.MaxBody:
		return api.ErrLong
	case len(h.Fields) > api.MaxFields-1:
		return api.ErrMany
	case count(h.Fields, lengthName) > 0, count(h.Fields, codingName) > 0:
		return api.ErrLength
	case count(h.Fields, hostName) != 1:
		return api.ErrHost
	}
	return 0
}
