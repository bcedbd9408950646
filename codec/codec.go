// Package codec is layer 1: numbers of as few bytes as they need, texts, and
// records with a sum: see shared/doc/01-codec.md.
package codec

import "longstop/api"

// mostGroups: 64 bits are nine groups of seven and one bit more.
const mostGroups = 10

// Number gives the bytes of n.
func Number(n int) []byte {
	return appendNumber(make([]byte, 0, mostGroups), n)
}

// Text gives the bytes of s.
func Text(s string) ([]byte, api.Errno) {
	if len(s) > api.MaxBytes {
		return nil, api.ErrSize
	}
	b := appendNumber(make([]byte, 0, mostGroups+len(s)), len(s))
	return append(b, s...), api.OK
}

func appendNumber(b []byte, n int) []byte {
	rest := fold(n)
	for rest > 127 {
		b = append(b, byte(rest)|128)
		rest >>= 7
	}
	return append(b, byte(rest))
}

// takeNumber tells the number that b begins with, and how many bytes it has.
func takeNumber(b []byte) (n, size int, e api.Errno) {
	var folded uint64
next:
	if size == len(b) {
		return 0, 0, api.ErrEnd
	}
	group := b[size]
	folded |= uint64(group&127) << (7 * size)
	size++
	if group > 127 && size < mostGroups {
		goto next
	}
	if size == mostGroups && group > 1 {
		return 0, 0, api.ErrForm
	}
	// A last group of 0 would give the same number a second, longer form.
	if size > 1 && group == 0 {
		return 0, 0, api.ErrForm
	}
	return unfold(folded), size, api.OK
}

// takeLength is takeNumber for a count of bytes. A length that may not be is
// ErrForm however few bytes follow: no further bytes could make it right.
func takeLength(b []byte) (n, size int, e api.Errno) {
	n, size, e = takeNumber(b)
	if e != api.OK {
		return 0, 0, e
	}
	if n < 0 || n > api.MaxBytes {
		return 0, 0, api.ErrForm
	}
	return n, size, api.OK
}

// fold works in wrapping bits, because 2 n alone does not fit an int.
func fold(n int) uint64 {
	doubled := uint64(n) << 1
	if n < 0 {
		return ^doubled
	}
	return doubled
}

func unfold(folded uint64) int {
	half := folded >> 1
	if folded&1 == 1 {
		return int(^half)
	}
	return int(half)
}
