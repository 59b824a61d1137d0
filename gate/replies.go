package gate

import (
	"lighterage/api"
	"lighterage/reply"
)

// Statuses of replies, by their words.
const (
	statusCreated              = 201
	statusBadRequest           = 400
	statusNotFound             = 404
	statusMethodNotAllowed     = 405
	statusContentTooLarge      = 413
	statusUnsupportedMediaType = 415
	statusInsufficientStorage  = 507
)

// bare answers a reply that tells nothing but its status.
func bare(status int) api.Reply { return api.Reply{Status: status} }

// failed answers the reply to a request that failed with that code.
func failed(code int) api.Reply {
	if code == api.ErrLong {
		return bare(statusContentTooLarge)
	}
	return bare(statusBadRequest)
}

// text writes a reply. No code comes of it: each status has its word, and what
// a field tells of an upload was bounded when the upload was created.
func text(r api.Reply) []byte {
	b, _ := reply.Write(r)
	return b
}
