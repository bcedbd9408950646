package wal

import (
	"iter"
	"math"

	"longstop/api"
	"longstop/codec"
)

// records goes through what b, which stands at the place base, tells: record by
// record, each with the place where it ends. It ends ahead of a record whose end
// would be no int.
func records(base int, b []byte) iter.Seq2[Entry, int] {
	return func(yield func(Entry, int) bool) {
		at, rest := base, b
		for {
			in, size, e := codec.Unrecord(rest)
			if e != api.OK || at > math.MaxInt-size {
				return
			}
			if !yield(Entry{At: at, B: in}, at+size) {
				return
			}
			at, rest = at+size, rest[size:]
		}
	}
}
