package journal

import "lighterage/api"

// Log keeps bytes, of which the first ones are made sure of.
type Log struct {
	bytes []byte
	sure  int // how many
}

// New keeps no bytes.
func New() *Log { return &Log{} }

// Room: have so many bytes more room?
func (l *Log) Room(n int) bool { return n >= 0 && n <= api.MaxLog-len(l.bytes) }

// Write lays bytes behind those that there are, all of them or none.
func (l *Log) Write(b []byte) int {
	if !l.Room(len(b)) {
		return api.ErrFull
	}
	l.bytes = append(l.bytes, b...)
	return 0
}

// Sync makes sure of all bytes.
func (l *Log) Sync() { l.sure = len(l.bytes) }

// Crash loses bytes that are not made sure of, all but the first ones, keep at
// most. Those that are left are made sure of.
func (l *Log) Crash(keep int) {
	// Bounded ahead of the sum, which could be beyond an int else.
	stay := min(max(keep, 0), len(l.bytes)-l.sure)
	l.Cut(l.sure + stay)
	l.Sync()
}

// Cut lets the first n bytes stay, if there are more.
func (l *Log) Cut(n int) {
	if n < 0 || n >= len(l.bytes) {
		return
	}
	l.bytes = l.bytes[:n]
	l.sure = min(l.sure, n)
}

// Bytes answers all bytes.
func (l *Log) Bytes() []byte { return append([]byte(nil), l.bytes...) }

// Sure answers how many bytes are made sure of.
func (l *Log) Sure() int { return l.sure }
