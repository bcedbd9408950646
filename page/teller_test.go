package page_test

import (
	"encoding/binary"
	"slices"

	"longstop/api"
)

// A second teller of the chapter: a page is a list of texts, and its bytes are
// held against the words of the chapter field by field.

// plainSum goes bit by bit, as the chapter's words say it.
func plainSum(b []byte) uint64 {
	var register uint64
	for _, x := range b {
		for bit := 7; bit >= 0; bit-- {
			out := register>>63 ^ uint64(x>>bit)&1
			register <<= 1
			if out == 1 {
				register ^= 0x42f0e1eba9ea3693
			}
		}
	}
	return register
}

// sealed puts the sum behind the first 504 bytes.
func sealed(b []byte) []byte {
	b = slices.Clone(b[:504])
	return binary.BigEndian.AppendUint64(b, plainSum(b))
}

// laid gives 512 bytes with this head, this tail and the right sum.
func laid(head, tail []byte) []byte {
	zeros := make([]byte, 504-len(head)-len(tail))
	return sealed(slices.Concat(head, zeros, tail))
}

func number(n int) []byte { return []byte{byte(n >> 8), byte(n)} }

func numbers(l ...int) []byte {
	var b []byte
	for _, n := range l {
		b = append(b, number(n)...)
	}
	return b
}

func pageOf(l ...string) []byte {
	head := number(len(l))
	var tail []byte
	for _, s := range l {
		if s == empty {
			head = append(head, 0, 0, 0, 0)
			continue
		}
		tail = append([]byte(s), tail...)
		head = append(head, numbers(504-len(tail), len(s))...)
	}
	return laid(head, tail)
}

func roomOf(l []string) int {
	n := 502
	for _, s := range l {
		n -= 4
		if s != empty {
			n -= len(s)
		}
	}
	return n
}

// toldPage gives a page's slots, by the words of the chapter one by one.
func toldPage(p []byte) ([]string, bool) {
	if len(p) != 512 || binary.BigEndian.Uint64(p[504:]) != plainSum(p[:504]) {
		return nil, false
	}
	at := func(i int) int { return int(binary.BigEndian.Uint16(p[i:])) }
	count := at(0)
	head := 2 + 4*count
	if head > 504 {
		return nil, false
	}
	var l []string
	end := 504
	for i := range count {
		begin, size := at(2+4*i), at(4+4*i)
		if begin == 0 && size == 0 {
			l = append(l, empty)
			continue
		}
		if begin < head || begin+size != end {
			return nil, false
		}
		l = append(l, string(p[begin:end]))
		end = begin
	}
	if count > 0 && l[count-1] == empty {
		return nil, false
	}
	for _, x := range p[head:end] {
		if x != 0 {
			return nil, false
		}
	}
	return l, true
}

func toldInsert(l []string, r string) ([]string, int, api.Errno) {
	slot := slices.Index(l, empty)
	need := len(r)
	if slot < 0 {
		slot, need = len(l), need+4
	}
	if need > roomOf(l) {
		return nil, 0, api.ErrFull
	}
	l = append(slices.Clone(l), "")[:max(len(l), slot+1)]
	l[slot] = r
	return l, slot, api.OK
}

func isTaken(l []string, slot int) bool {
	return slot >= 0 && slot < len(l) && l[slot] != empty
}

func toldUpdate(l []string, slot int, r string) ([]string, api.Errno) {
	if !isTaken(l, slot) {
		return nil, api.ErrNone
	}
	if len(r)-len(l[slot]) > roomOf(l) {
		return nil, api.ErrFull
	}
	l = slices.Clone(l)
	l[slot] = r
	return l, api.OK
}

func toldDelete(l []string, slot int) ([]string, api.Errno) {
	if !isTaken(l, slot) {
		return nil, api.ErrNone
	}
	l = slices.Clone(l)
	l[slot] = empty
	for len(l) > 0 && l[len(l)-1] == empty {
		l = l[:len(l)-1]
	}
	return l, api.OK
}

// toldPack lays rows' bytes, each of at most 498, into pages.
func toldPack(records []string) [][]string {
	var pages [][]string
	for _, r := range records {
		if n := len(pages); n > 0 {
			if next, _, e := toldInsert(pages[n-1], r); e == api.OK {
				pages[n-1] = next
				continue
			}
		}
		pages = append(pages, []string{r})
	}
	return pages
}
