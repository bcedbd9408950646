package disk

import "bytes"

// flipped are the bits that are others in a torn byte.
const flipped = 85

// log is a row of bytes, of which the first one stands at the place base.
type log struct {
	most, base int
	bytes      []byte
	sure       int // how many of the bytes, the first ones
}

func newLog(most int) *log { return &log{most: most} }

func (l *log) end() int { return l.base + len(l.bytes) }

// has tells whether a byte stands at that place, or it is the end.
func (l *log) has(at int) bool { return at >= l.base && at <= l.end() }

func (l *log) hasRoom(size int) bool { return len(l.bytes)+size <= l.most }

func (l *log) add(b []byte) { l.bytes = append(l.bytes, b...) }

func (l *log) sync() { l.sure = len(l.bytes) }

// cut leaves no room behind what stays, so that what is gone can't come back out
// of it: what is added next goes into new memory.
func (l *log) cut(at int) {
	n := at - l.base
	l.bytes = l.bytes[:n:n]
	l.sure = min(l.sure, n)
}

// retire may take away bytes that are not sure; what stays is no surer by that.
func (l *log) retire(at int) {
	n := at - l.base
	l.bytes = l.bytes[n:]
	l.base = at
	l.sure = max(l.sure-n, 0)
}

func (l *log) read(at int) []byte { return bytes.Clone(l.bytes[at-l.base:]) }

// crash leaves what is sure, and the first keep bytes of what is not.
func (l *log) crash(keep int, torn bool) {
	stay := min(max(keep, 0), len(l.bytes)-l.sure)
	l.cut(l.base + l.sure + stay)
	if torn && stay > 0 {
		l.bytes[len(l.bytes)-1] ^= flipped
	}
	l.sync()
}
