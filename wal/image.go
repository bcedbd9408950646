package wal

import (
	"bytes"
	"slices"
)

// image is a log as it was looked at: its bytes from base on, where its records
// begin, and where the last one ends. Bytes behind that are no record.
type image struct {
	base   int
	bytes  []byte
	starts []int
	told   int
}

func imageOf(base int, b []byte) image {
	x := image{base: base, told: base}
	x.grow(b)
	return x
}

func (x *image) end() int { return x.base + len(x.bytes) }

// is tells whether the image is of a log with these bytes from base on.
func (x *image) is(base int, b []byte) bool {
	return x.base == base && bytes.Equal(x.bytes, b)
}

// has tells whether a record begins at that place, or it is the end.
func (x *image) has(at int) bool {
	_, found := slices.BinarySearch(x.starts, at)
	return found || at == x.end()
}

// since gives the records from a place on that the image has.
func (x *image) since(at int) []Entry {
	l, _ := Scan(at, x.bytes[at-x.base:])
	return l
}

// grow puts b behind the bytes, and goes on telling where it ended.
func (x *image) grow(b []byte) {
	x.bytes = append(x.bytes, b...)
	for y, behind := range records(x.told, x.bytes[x.told-x.base:]) {
		x.starts = append(x.starts, y.At)
		x.told = behind
	}
}

// cut takes away what stands from that place on.
func (x *image) cut(at int) {
	x.bytes, x.starts = x.bytes[:at-x.base], x.starts[:x.countBelow(at)]
	x.told = min(x.told, at)
}

// retire takes away what stands below that place.
func (x *image) retire(at int) {
	x.bytes, x.starts = x.bytes[at-x.base:], x.starts[x.countBelow(at):]
	x.base = at
	x.told = max(x.told, at)
}

// countBelow tells how many records begin below that place.
func (x *image) countBelow(at int) int {
	i, _ := slices.BinarySearch(x.starts, at)
	return i
}
