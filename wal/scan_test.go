package wal_test

import (
	"math/rand"
	"strings"
	"testing"

	"longstop/codec"
	"longstop/wal"
)

// The tests' own record is the chapter's.
func TestP1502RecordOf(t *testing.T) {
	if s := recordOf(""); s != strings.Repeat("\x00", 9) {
		t.Errorf("%q", s)
	}
	for _, n := range []int{0, 1, 2, 3, 7, 8, 9, 63, 64, 65, 8191, 8192, 100000} {
		b, _ := codec.Record([]byte(repeated(n)))
		if string(b) != recordOf(repeated(n)) || len(b) != sizeOf(repeated(n)) {
			t.Errorf("a record of %d bytes", n)
		}
	}
}

// isScan complains unless b, at base, tells these records, and no more.
func isScan(t *testing.T, base int, b string, want []note) {
	t.Helper()
	l, end := wal.Scan(base, []byte(b))
	isList(t, "Scan of "+short(b), l, want)
	last := base
	for _, n := range want {
		last = n.at + n.size
	}
	if end != last {
		t.Fatalf("Scan of %s at %d: end %d, not %d", short(b), base, end, last)
	}
}

func TestP1502Scan(t *testing.T) {
	for _, base := range []int{0, 1, 12, -1, -30, -9, 1 << 40, least, great - 1<<20} {
		for _, l := range [][]string{
			{}, {""}, {"", "", ""}, {"a"}, {"one", "two", "three"}, {"a", "", "b"},
			{repeated(63), repeated(64), repeated(8191), repeated(8192), "x"},
			{"\x00", "\xff\xff", strings.Repeat("\x00", 40), ""},
		} {
			isScan(t, base, bytesOf(l...), notesOf(base, l...))
		}
	}
}

func TestP1502Example(t *testing.T) {
	l, end := wal.Scan(0, []byte(bytesOf("a", "b")))
	if len(l) != 2 || l[0].At != 0 || l[1].At != 10 || end != 20 {
		t.Error(l, end)
	}
}

// Of each beginning of a log the records that are whole are told.
func TestP1502EachBeginning(t *testing.T) {
	l := []string{"one", "", repeated(70), "x", recordOf("in")}
	b := bytesOf(l...)
	for n := range len(b) + 1 {
		var want []note
		for _, x := range notesOf(7, l...) {
			if x.at+x.size-7 <= n {
				want = append(want, x)
			}
		}
		isScan(t, 7, b[:n], want)
	}
}

// A byte that is another one ends what is told at its record. (One of a length
// may make another record of what follows only where the sum fits: never here.)
func TestP1502EachByteSpoiled(t *testing.T) {
	l := []string{"one", "", repeated(70), "x"}
	b := bytesOf(l...)
	for i := range len(b) {
		var want []note
		for _, x := range notesOf(0, l...) {
			if x.at+x.size <= i {
				want = append(want, x)
			}
		}
		for _, flip := range []byte{1, 2, 0x55, 0x80, 0xff} {
			s := []byte(b)
			s[i] ^= flip
			isScan(t, 0, string(s), want)
		}
	}
}

// What is no record ends what is told, whatever stands behind it.
func TestP1502Junk(t *testing.T) {
	for _, junk := range []string{
		"\x01" + strings.Repeat("\x00", 20),                 // a length below 0
		"\x80\x00" + strings.Repeat("\x00", 20),             // a length that is not as it is written
		"\x80\x80\x80\x80\x80\x80\x80\x80\x80\x80\x01",      // a number too long
		"\x82\x80\x80\x01" + repeated(1000),                 // a length above MaxBytes
		"\x80\x80\x80\x01" + repeated(1000),                 // one of just MaxBytes, and too few bytes
		"\x00\x00\x00\x00\x00\x00\x00\x00\x01",              // another sum
		"\x02a" + strings.Repeat("\x00", 8),                 // another sum
		"\x80",                                              // a length that breaks off
		"\x00\x00\x00\x00\x00\x00\x00\x00",                  // a sum that breaks off
		strings.Repeat("\xff", 512),                         // a page that was torn
		recordOf("abc")[1:], recordOf("abc")[:11], "junk..", // parts of a record
	} {
		isScan(t, 5, junk, nil)
		isScan(t, 5, junk+bytesOf("a", "b"), nil)
		isScan(t, 5, bytesOf("a", "b")+junk, notesOf(5, "a", "b"))
		isScan(t, 5, bytesOf("a", "b")+junk+bytesOf("c"), notesOf(5, "a", "b"))
	}
	isScan(t, 5, "", nil)
}

// A record in a record is not told.
func TestP1502RecordInRecord(t *testing.T) {
	in := bytesOf("a", "b")
	isScan(t, 0, bytesOf(in, recordOf(in)), notesOf(0, in, recordOf(in)))
}

func TestP1502MostBytes(t *testing.T) {
	s := repeated(1 << 20)
	isScan(t, 3, bytesOf(s, "x"), notesOf(3, s, "x"))
}

// Places are as they truly are: a record whose end would be no number ends what
// is told, and the end is where the last one ends.
func TestP1502FarPlaces(t *testing.T) {
	b := bytesOf("a", "b")
	isScan(t, great-20, b, notesOf(great-20, "a", "b"))
	isScan(t, great-19, b, notesOf(great-19, "a"))
	isScan(t, great-10, b, notesOf(great-10, "a"))
	isScan(t, great-9, b, nil)
	isScan(t, great, b, nil)
	isScan(t, great, "", nil)
	isScan(t, least, b, notesOf(least, "a", "b"))
	isScan(t, -10, b, notesOf(-10, "a", "b"))
}

// Random rows of records, broken off, or with another byte in them.
func TestP1502Random(t *testing.T) {
	for seed := range 3000 {
		r := rand.New(rand.NewSource(int64(seed)))
		var l []string
		for range r.Intn(6) {
			l = append(l, randomText(r, r.Intn(pick(r, 1, 4, 80))))
		}
		base := pick(r, 0, r.Intn(100), r.Int()/2, -r.Int())
		b, want := []byte(bytesOf(l...)), notesOf(base, l...)
		if bad := r.Intn(len(b) + 1); bad < len(b) {
			b = b[:bad+r.Intn(len(b)-bad)]
			if bad < len(b) {
				b[bad] ^= byte(1 + r.Intn(255))
			}
			want = endBefore(want, base+min(bad, len(b)))
		}
		l2, end := wal.Scan(base, b)
		isList(t, "Scan", l2, want)
		if n := len(want); end != base && n == 0 || n > 0 && end != want[n-1].at+want[n-1].size {
			t.Fatal(end)
		}
	}
}

// endBefore gives the records that end at that place, or ahead of it.
func endBefore(l []note, at int) []note {
	for i, x := range l {
		if x.at+x.size > at {
			return l[:i]
		}
	}
	return l
}

func randomText(r *rand.Rand, n int) string {
	b := make([]byte, n)
	r.Read(b)
	return string(b)
}
