package datum

import (
	"math/bits"

	"longstop/api"
)

// Classes of values in keys: Ints and Decs share one, so that they stand by
// number. No class is 0: that byte ends a row, ahead of all that go on.
const (
	classNull   = 1
	classNumber = 2
	classText   = 3
	classBool   = 4
	classPoint  = 5
)

// Key gives a row's key.
func Key(l ...api.Value) (string, api.Errno) {
	if e := checked(l); e != api.OK {
		return "", e
	}
	var b []byte
	for _, v := range l {
		b = appendKey(b, v)
	}
	return string(append(b, 0)), api.OK
}

// appendKey puts v's part of a key behind b.
func appendKey(b []byte, v api.Value) []byte {
	switch v.Kind {
	case api.Int, api.Dec:
		b = appendUnits(append(b, classNumber), v)
		return append(b, byte(v.Kind), byte(v.M))
	case api.Text:
		return appendText(append(b, classText), v.B)
	case api.Bool:
		return append(b, classBool, byte(v.N))
	case api.Point:
		b = appendCoordinate(append(b, classPoint), v.N)
		return appendCoordinate(b, v.M)
	}
	return append(b, classNull)
}

// appendUnits puts the number's units at the scale MaxScale behind b, with
// 2^127 added: the numbers below 0 come to stand ahead of the others so.
func appendUnits(b []byte, v api.Value) []byte {
	factor := uint64(1)
	for range api.MaxScale - v.M {
		factor *= 10
	}
	high, low := bits.Mul64(uint64(v.N), factor)
	if v.N < 0 {
		high -= factor // as a word of 64 bits N is 2^64 more than it is
	}
	return appendWord(appendWord(b, high^1<<63, 8), low, 8)
}

// appendText ends the text by 0 1, and tells each 0 within it as 0 255: so an
// end stands ahead of whatever else might follow.
func appendText(b []byte, s string) []byte {
	for i := range len(s) {
		b = append(b, s[i])
		if s[i] == 0 {
			b = append(b, 255)
		}
	}
	return append(b, 0, 1)
}

func appendCoordinate(b []byte, n int) []byte {
	return appendWord(b, uint64(n+1<<31), 4)
}

// appendWord puts the lowest bytes of word, as many as size, behind b, the
// highest of them first.
func appendWord(b []byte, word uint64, size int) []byte {
	for shift := 8 * (size - 1); shift >= 0; shift -= 8 {
		b = append(b, byte(word>>shift))
	}
	return b
}
