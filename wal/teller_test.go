package wal_test

import (
	"hash/crc64"
	"math/bits"

	"longstop/api"
)

// A second teller of the chapter: the log is a list of records that each know
// what is in them, how many bytes they have, and how many of these are sure.

type note struct {
	at, size, sure int
	in             string
}

type told struct {
	most, base, end, fuse int
	down                  bool
	notes                 []note
	sure                  int // what Sure answers
}

// turned gives b with its bits turned over, as the library's sum takes them.
func turned(b []byte) []byte {
	t := make([]byte, len(b))
	for i, x := range b {
		t[i] = bits.Reverse8(x)
	}
	return t
}

// sumOf is the sum of b by way of the library, whose sum is turned over and
// starts and ends with all bits flipped. A start of zeros is made by flipping
// the first eight bytes, and eight zeros ahead of all change nothing.
func sumOf(b []byte) uint64 {
	long := append(make([]byte, 8), turned(b)...)
	for i := range 8 {
		long[i] = 0xff
	}
	return bits.Reverse64(^crc64.Checksum(long, crc64.MakeTable(crc64.ECMA)))
}

// lengthOf is a length as a number's bytes.
func lengthOf(n int) []byte {
	var b []byte
	for n *= 2; n > 127; n /= 128 {
		b = append(b, byte(n%128+128))
	}
	return append(b, byte(n))
}

// recordOf is the bytes of a record of s.
func recordOf(s string) string {
	b := append(lengthOf(len(s)), s...)
	sum := sumOf([]byte(s))
	for i := range 8 {
		b = append(b, byte(sum>>(56-8*i)))
	}
	return string(b)
}

func sizeOf(s string) int { return len(lengthOf(len(s))) + len(s) + 8 }

func (x *told) operation(wrong bool, e api.Errno) api.Errno {
	if wrong {
		return e
	}
	if x.down {
		return api.ErrPower
	}
	if x.fuse == 0 {
		x.down = true
		return api.ErrPower
	}
	if x.fuse > 0 {
		x.fuse--
	}
	return api.OK
}

func (x *told) append(s string) (int, api.Errno) {
	if len(s) > api.MaxBytes {
		return 0, api.ErrSize
	}
	size := sizeOf(s)
	if e := x.operation(!x.down && x.end-x.base+size > x.most, api.ErrFull); e != api.OK {
		return 0, e
	}
	x.notes = append(x.notes, note{at: x.end, size: size, in: s})
	x.end += size
	return x.end - size, api.OK
}

func (x *told) sync() api.Errno {
	e := x.operation(false, api.OK)
	if e == api.OK {
		x.settle()
	}
	return e
}

func (x *told) settle() {
	for i := range x.notes {
		x.notes[i].sure = x.notes[i].size
	}
	x.sure = x.end
}

// place finds the record that begins there; the End is behind them all.
func (x *told) place(at int) (int, bool) {
	for i, n := range x.notes {
		if n.at == at {
			return i, true
		}
	}
	return len(x.notes), at == x.end
}

func (x *told) since(at int) ([]note, api.Errno) {
	i, ok := x.place(at)
	if !ok {
		return nil, api.ErrArg
	}
	return x.notes[i:], api.OK
}

func (x *told) truncate(at int) api.Errno {
	i, ok := x.place(at)
	e := x.operation(!ok, api.ErrArg)
	if e == api.OK {
		x.notes, x.end, x.sure = x.notes[:i], at, at
	}
	return e
}

func (x *told) retire(at int) api.Errno {
	i, ok := x.place(at)
	e := x.operation(!ok, api.ErrArg)
	if e == api.OK {
		x.notes, x.base = x.notes[i:], at
	}
	return e
}

// crash leaves the first keep bytes that are not sure, of which the last one may
// be torn. A record stays if all its bytes do, as they were. Behind it the End is
// where the bytes end, also where they are no record.
func (x *told) crash(keep int, torn bool) {
	loose := 0
	for _, n := range x.notes {
		loose += n.size - n.sure
	}
	stay := min(max(keep, 0), loose)
	x.end -= loose - stay
	if torn && stay > 0 {
		stay--
	}
	var kept []note
	for _, n := range x.notes {
		stay -= n.size - n.sure
		if stay < 0 {
			break
		}
		n.sure = n.size
		kept = append(kept, n)
	}
	x.notes, x.down, x.fuse = kept, false, -1
}

// open takes away what is no record, and makes all sure.
func (x *told) open() api.Errno {
	if x.down {
		return api.ErrPower
	}
	told := x.base
	for _, n := range x.notes {
		told = n.at + n.size
	}
	if told < x.end {
		if e := x.operation(false, api.OK); e != api.OK {
			return e
		}
		x.end = told
	}
	return x.sync()
}
