package forms

import (
	"bytes"
	"strings"

	"lighterage/api"
	"lighterage/chars"
	"lighterage/fields"
	"lighterage/params"
)

const (
	// encoding stands ahead of what a filename* says.
	encoding = "utf-8''"
	// noName is the name of a file of whose own nothing is left.
	noName = "file"
)

// Part tells what a part's fields say.
func Part(l []api.Field) (api.Part, int) {
	m, code := disposition(l)
	if code != 0 {
		return api.Part{}, code
	}
	name, named := params.Get(m, "name")
	if !named {
		return api.Part{}, api.ErrName
	}
	file, ok := fileName(m)
	if !ok {
		return api.Part{}, api.ErrForm
	}
	// A part need not tell its type: with ErrNone it is empty.
	kind, code := fields.One(l, "Content-Type")
	if code == api.ErrTwice {
		return api.Part{}, code
	}
	return api.Part{Name: name, File: file, Type: kind}, 0
}

func disposition(l []api.Field) (api.Media, int) {
	value, code := fields.One(l, "Content-Disposition")
	if code != 0 {
		return api.Media{}, code
	}
	m, code := params.Parse(value)
	switch {
	case code != 0:
		return api.Media{}, code
	case m.Word != "form-data":
		return api.Media{}, api.ErrKind
	}
	return m, 0
}

// fileName answers the safe name of a part's file; empty: it is none. False:
// it can't be read.
func fileName(m api.Media) (string, bool) {
	if coded, there := params.Get(m, "filename*"); there {
		name, ok := decode(coded)
		if !ok {
			return "", false
		}
		return Safe(name), true
	}
	if name, there := params.Get(m, "filename"); there {
		return Safe(name), true
	}
	return "", true
}

// decode answers what the value of a filename* means.
func decode(s string) (string, bool) {
	if len(s) < len(encoding) || chars.Lower(s[:len(encoding)]) != encoding {
		return "", false
	}
	var b []byte
	for i := len(encoding); i < len(s); i++ {
		if s[i] != '%' {
			b = append(b, s[i])
			continue
		}
		if len(s)-i < len("%HH") {
			return "", false
		}
		n, ok := chars.HexNumber(s[i+1 : i+3])
		if !ok {
			return "", false
		}
		b = append(b, byte(n))
		i += 2
	}
	return string(b), true
}

// Safe answers a name that leads nowhere else than to the folder it is laid
// in.
func Safe(s string) string {
	last := max(strings.LastIndexByte(s, '/'), strings.LastIndexByte(s, '\\'))
	name := []byte(s[last+1:])
	for i, c := range name {
		if c == '\t' || c == '"' || c == ':' || !chars.Visible(c) {
			name[i] = '_'
		}
	}
	// Dots go ahead of the cut: else a name might be cut to dots alone.
	name = bytes.TrimLeft(name, ".")
	name = name[:min(len(name), api.MaxName)]
	if len(name) == 0 {
		return noName
	}
	return string(name)
}
