package codec

import "longstop/api"

// Reader reads numbers and texts out of bytes, one behind the other, up to the
// first error.
type Reader struct {
	bytes []byte
	state state
}

// state is what a Reader knows beside its bytes. made keeps the state of every
// Reader of NewReader apart from the zero one, also at the beginning.
type state struct {
	made   bool
	passed int
	first  api.Errno
}

// NewReader gives a Reader at the beginning of b. It takes a copy, so that what
// becomes of b later is not read.
func NewReader(b []byte) *Reader {
	return &Reader{bytes: append([]byte(nil), b...), state: state{made: true}}
}

// Number reads a number; behind an error it answers 0.
func (r *Reader) Number() int {
	if r.Err() != api.OK {
		return 0
	}
	n, size, e := takeNumber(r.rest())
	r.pass(size, e)
	return n
}

// Text reads a text; behind an error it answers "".
func (r *Reader) Text() string {
	if r.Err() != api.OK {
		return ""
	}
	text, size, e := takeText(r.rest())
	r.pass(size, e)
	return text
}

// Left tells how many bytes were not passed.
func (r *Reader) Left() int {
	if !r.wasMade() {
		return 0
	}
	return len(r.rest())
}

// Err tells the first error.
func (r *Reader) Err() api.Errno {
	if !r.wasMade() {
		return api.ErrArg
	}
	return r.state.first
}

// Done tells the first error, or ErrForm, if bytes are left.
func (r *Reader) Done() api.Errno {
	if e := r.Err(); e != api.OK {
		return e
	}
	if r.Left() > 0 {
		return api.ErrForm
	}
	return api.OK
}

func (r *Reader) wasMade() bool {
	return r != nil && r.state != state{}
}

func (r *Reader) rest() []byte {
	return r.bytes[r.state.passed:]
}

func (r *Reader) pass(size int, e api.Errno) {
	r.state.passed += size
	r.state.first = e
}

// takeText tells the text that b begins with, and how many bytes it has with
// its length.
func takeText(b []byte) (text string, size int, e api.Errno) {
	n, head, e := takeLength(b)
	if e != api.OK {
		return "", 0, e
	}
	if len(b)-head < n {
		return "", 0, api.ErrEnd
	}
	return string(b[head : head+n]), head + n, api.OK
}
