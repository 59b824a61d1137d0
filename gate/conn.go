package gate

import (
	"strings"

	"lighterage/api"
	"lighterage/request"
)

// pieces is what the targets of uploads begin with.
const pieces = "/files/"

// conn is a reader of requests that gathers the one that is not over.
type conn struct {
	*request.Parser
	asked
}

// asked is what came of a request. Its head is empty till it came whole.
type asked struct {
	api.Head
	came []byte // of its body
}

func newConn() conn { return conn{Parser: request.New()} }

// give answers what came of a request, and keeps nothing of it.
func (c *conn) give() asked {
	r := c.asked
	c.asked = asked{}
	return r
}

// isPiece: does a request bring bytes of an upload?
func (r asked) isPiece() bool {
	return r.Method == "PATCH" && strings.HasPrefix(r.Target, pieces)
}
