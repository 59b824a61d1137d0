package request

import (
	"slices"
	"strings"

	"lighterage/api"
)

// Join answers events of which no two with bytes of a body stand one behind
// the other.
func Join(l []api.Event) []api.Event {
	var out []api.Event
	for _, e := range l {
		out = add(out, clone(e))
	}
	return out
}

// add lays an event behind others, which it may change: bytes of a body go to
// those that stand there already. Of such events nothing but their bytes is
// left, as what else one has does not hold for all of them.
func add(l []api.Event, e api.Event) []api.Event {
	last := len(l) - 1
	if e.Kind == api.EBody && last >= 0 && l[last].Kind == api.EBody {
		l[last] = api.Event{Kind: api.EBody, Bytes: append(l[last].Bytes, e.Bytes...)}
		return l
	}
	return append(l, e)
}

// clone answers an event that shares no memory with e.
func clone(e api.Event) api.Event {
	e.Head, e.Part = cloneHead(e.Head), clonePart(e.Part)
	e.Bytes = slices.Clone(e.Bytes)
	return e
}

func cloneHead(h api.Head) api.Head {
	h.Method, h.Target = strings.Clone(h.Method), strings.Clone(h.Target)
	h.Fields = slices.Clone(h.Fields)
	for i, f := range h.Fields {
		h.Fields[i] = api.Field{Name: strings.Clone(f.Name), Value: strings.Clone(f.Value)}
	}
	return h
}

func clonePart(p api.Part) api.Part {
	p.Name, p.File, p.Type = strings.Clone(p.Name), strings.Clone(p.File), strings.Clone(p.Type)
	p.Bytes = slices.Clone(p.Bytes)
	return p
}
