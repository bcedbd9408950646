package page

import (
	"bytes"
	"iter"

	"longstop/codec"
)

// A page's fields: how many slots, the slots, zeros, the records, the sum.
const (
	pageBytes   = 512
	sumAt       = 504
	sumBytes    = pageBytes - sumAt
	numberBytes = 2
	slotBytes   = 2 * numberBytes
	slotsAt     = numberBytes
	mostSlots   = (sumAt - slotsAt) / slotBytes
	mostRecord  = sumAt - slotsAt - slotBytes
)

// content is what is in a slot. A record may have no bytes, so they alone do
// not tell whether the slot is empty.
type content struct {
	taken  bool
	record []byte
}

func holding(r []byte) content { return content{taken: true, record: r} }

// cut gives a field of p without the room behind it, so that nothing that is
// done with the one field reaches into the next.
func cut(p []byte, from, size int) []byte { return p[from : from+size : from+size] }

func takeNumber(field []byte) int { return int(field[0])<<8 | int(field[1]) }

func putNumber(field []byte, n int) { field[0], field[1] = byte(n>>8), byte(n) }

func putSum(field []byte, sum uint64) {
	for i := range field {
		field[i] = byte(sum >> (8 * (len(field) - 1 - i)))
	}
}

// slots goes through the slots that p, of pageBytes bytes, tells of, from the
// first one on. It does not ask whether p is a page, but ends where a slot, or
// its record, would lie beyond the sum.
func slots(p []byte) iter.Seq2[int, content] {
	return func(yield func(int, content) bool) {
		count := takeNumber(cut(p, 0, numberBytes))
		for i := range min(count, mostSlots) {
			field := cut(p, slotsAt+i*slotBytes, slotBytes)
			begin := takeNumber(cut(field, 0, numberBytes))
			size := takeNumber(cut(field, numberBytes, numberBytes))
			if begin+size > sumAt {
				return
			}
			x := content{}
			if begin > 0 {
				x = holding(cut(p, begin, size))
			}
			if !yield(i, x) {
				return
			}
		}
	}
}

// read gives what is in the slots of p. There is one row of bytes for what is
// in slots, so p is a page if it is just what is written for what it tells.
func read(p []byte) ([]content, bool) {
	if len(p) != pageBytes {
		return nil, false
	}
	var l []content
	for _, x := range slots(p) {
		l = append(l, x)
	}
	if room(l) < 0 || len(withoutEmptyEnd(l)) < len(l) || !bytes.Equal(p, write(l)) {
		return nil, false
	}
	return l, true
}

// write gives the page in whose slots l is, which must have room for it.
func write(l []content) []byte {
	p := make([]byte, pageBytes)
	putNumber(cut(p, 0, numberBytes), len(l))
	end := sumAt
	for i, x := range l {
		if !x.taken {
			continue
		}
		end -= len(x.record)
		copy(cut(p, end, len(x.record)), x.record)
		field := cut(p, slotsAt+i*slotBytes, slotBytes)
		putNumber(cut(field, 0, numberBytes), end)
		putNumber(cut(field, numberBytes, numberBytes), len(x.record))
	}
	putSum(cut(p, sumAt, sumBytes), codec.Sum(cut(p, 0, sumAt)))
	return p
}

// room gives how many bytes are free in the page of l, below 0 if l does not
// fit into one.
func room(l []content) int {
	n := sumAt - slotsAt - len(l)*slotBytes
	for _, x := range l {
		n -= len(x.record)
	}
	return n
}

// firstEmpty gives the first empty slot, or the one behind the last.
func firstEmpty(l []content) int {
	for i, x := range l {
		if !x.taken {
			return i
		}
	}
	return len(l)
}

func withoutEmptyEnd(l []content) []content {
	for len(l) > 0 && !l[len(l)-1].taken {
		l = l[:len(l)-1]
	}
	return l
}
