package tus

import (
	"strconv"

	"lighterage/api"
	"lighterage/chars"
	"lighterage/fields"
)

// Names of fields.
const (
	fieldResumable = "Tus-Resumable"
	fieldVersion   = "Tus-Version"
	fieldMaxSize   = "Tus-Max-Size"
	fieldExtension = "Tus-Extension"
	fieldLength    = "Upload-Length"
	fieldDefer     = "Upload-Defer-Length"
	fieldMetadata  = "Upload-Metadata"
	fieldOffset    = "Upload-Offset"
	fieldLocation  = "Location"
	fieldCache     = "Cache-Control"
	fieldType      = "Content-Type"
)

// Statuses of replies, by their words.
const (
	statusOK                   = 200
	statusCreated              = 201
	statusNoContent            = 204
	statusBadRequest           = 400
	statusNotFound             = 404
	statusMethodNotAllowed     = 405
	statusConflict             = 409
	statusPreconditionFailed   = 412
	statusContentTooLarge      = 413
	statusUnsupportedMediaType = 415
	statusInsufficientStorage  = 507
)

// gaveUp is what an exchange panics with: the reply that it comes to.
type gaveUp struct{ api.Reply }

// caught answers a reply, also one that was given up with. A panic that is no
// exchange's own is a fault of the program, and is not hidden.
func caught(reply func() api.Reply) (r api.Reply) {
	defer func() {
		if why := recover(); why != nil {
			r = why.(gaveUp).Reply
		}
	}()
	return reply()
}

// need gives up with a reply, unless something is so.
func need(is bool, status int, more ...api.Field) {
	if !is {
		panic(gaveUp{answer(status, more...)})
	}
}

// needDone gives up, if a step of the store has a code.
func needDone(code int) { need(code == 0, statusOf(code)) }

// statusOf answers the status of a step's code.
func statusOf(code int) int {
	switch code {
	case api.ErrNone:
		return statusNotFound
	case api.ErrOffset, api.ErrSent:
		return statusConflict
	case api.ErrLong:
		return statusContentTooLarge
	case api.ErrMany, api.ErrFull:
		return statusInsufficientStorage
	}
	return statusBadRequest
}

// text answers the value of a field, and whether it is there; it gives up, if
// there are several.
func (x exchange) text(name string) (string, bool) {
	value, code := fields.One(x.Fields, name)
	need(code != api.ErrTwice, statusBadRequest)
	return value, code == 0
}

// number answers the number that a field tells, and whether it is there; it
// gives up, if it is none.
func (x exchange) number(name string) (int, bool) {
	value, there := x.text(name)
	if !there {
		return 0, false
	}
	n, is := chars.Number(value)
	need(is, statusBadRequest)
	return n, true
}

// answer makes a reply: which version is spoken, each one tells first.
func answer(status int, more ...api.Field) api.Reply {
	return api.Reply{Status: status, Fields: append([]api.Field{field(fieldResumable, version)}, more...)}
}

func field(name, value string) api.Field { return api.Field{Name: name, Value: value} }

func count(name string, n int) api.Field { return field(name, strconv.Itoa(n)) }
