package gate

import (
	"strconv"

	"lighterage/api"
	"lighterage/fields"
	"lighterage/forms"
	"lighterage/params"
	"lighterage/store"
)

const (
	formTarget = "/form"
	formMedia  = "multipart/form-data"
	metaAhead  = "filename "
)

// besides is room in the log for a part beside its bytes: more than the entries
// of a Create, an Append and a Drop need, so that what was begun can be taken
// back.
const besides = 200

// form lands the files of a form, and answers it.
func (g *Gate) form(r asked) api.Reply {
	boundary, told := boundaryOf(r.Fields)
	if !told {
		return bare(statusUnsupportedMediaType)
	}
	parts, code := forms.Read(boundary, r.came)
	switch {
	case code != 0:
		return bare(statusBadRequest)
	case !g.Room(roomOf(parts)):
		return bare(statusInsufficientStorage)
	}
	l := landing{Store: g.Store}
	code = l.addAll(parts)
	if code != 0 {
		l.dropAll()
	}
	l.Sync()
	return l.reply(code)
}

// boundaryOf answers the boundary that a head tells of a form. False: it tells
// of none.
func boundaryOf(l []api.Field) (string, bool) {
	value, code := fields.One(l, "Content-Type")
	if code != 0 {
		return "", false
	}
	m, code := params.Parse(value)
	if code != 0 || m.Word != formMedia {
		return "", false
	}
	return params.Get(m, "boundary")
}

// roomOf answers how much room in the log parts are given, those without a
// file, too.
func roomOf(parts []api.Part) int {
	n := 0
	for _, p := range parts {
		n += len(p.Bytes) + besides
	}
	return n
}

// landing is a store, and the files of one form that were landed in it.
type landing struct {
	*store.Store
	ids  []int
	list []byte // a line of each
}

// addAll lands the files of parts, up to the first one that can't be.
func (l *landing) addAll(parts []api.Part) int {
	for _, p := range parts {
		if p.File == "" {
			continue
		}
		if code := l.add(p); code != 0 {
			return code
		}
	}
	return 0
}

// add lands a file as an upload that is whole, or tells why it can't be, and
// leaves none.
func (l *landing) add(p api.Part) int {
	id, code := l.Create(len(p.Bytes), metaAhead+p.File)
	if code != 0 {
		return code
	}
	if code = l.Append(id, 0, p.Bytes); code != 0 {
		l.Drop(id)
		return code
	}
	l.ids = append(l.ids, id)
	l.list = append(l.list, strconv.Itoa(id)+" "+p.File+"\n"...)
	return 0
}

// dropAll takes back what was landed.
func (l *landing) dropAll() {
	for _, id := range l.ids {
		l.Drop(id)
	}
}

// reply answers what a landing came to that had that code.
func (l *landing) reply(code int) api.Reply {
	switch code {
	case 0:
		return api.Reply{Status: statusCreated, Body: l.list}
	case api.ErrLong:
		return bare(statusContentTooLarge)
	}
	return bare(statusInsufficientStorage)
}
