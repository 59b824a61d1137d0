package port

import (
	"strconv"

	"lighterage/api"
	"lighterage/request"
)

// How an upload is sent on.
const (
	method   = "POST"
	target   = "/take/" // and its number
	host     = "inland"
	hostName = "Host"
	metaName = "Upload-Metadata"
)

// send begins to send an upload on. That it was begun is made sure of ahead of
// the first byte that goes out: else a crash could lose that it ever was, and
// it would be sent on twice.
func (p *Port) send(id int) Out {
	if code := p.Begin(id); code != 0 {
		return Out{Code: code}
	}
	p.Sync()
	p.trail = append(p.trail, id)
	u, _ := p.Get(id)
	return Out{Up: onward(u)}
}

// taken makes sure that an upload which was sent on was taken.
func (p *Port) taken(id int) Out {
	code := p.End(id)
	if code == 0 {
		p.Sync()
	}
	return Out{Code: code}
}

// onward writes an upload as the request by which it is sent on. No code comes
// of it: what an upload may have is less than what a request may.
func onward(u api.Upload) []byte {
	h := api.Head{Method: method, Target: target + strconv.Itoa(u.ID), Fields: []api.Field{{Name: hostName, Value: host}}}
	if u.Meta != "" {
		h.Fields = append(h.Fields, api.Field{Name: metaName, Value: u.Meta})
	}
	b, _ := request.Write(h, u.Bytes)
	return b
}
