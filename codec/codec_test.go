package codec_test

import (
	"bytes"
	"math"
	"strings"
	"testing"

	"longstop/api"
	"longstop/codec"
)

// numberForms: numbers and how chapter 1 writes them.
func numberForms() map[int]string {
	return map[int]string{
		0:                  "\x00",
		-1:                 "\x01",
		1:                  "\x02",
		-2:                 "\x03",
		63:                 "\x7e",
		-64:                "\x7f",
		64:                 "\x80\x01",
		-65:                "\x81\x01",
		8191:               "\xfe\x7f",
		-8192:              "\xff\x7f",
		8192:               "\x80\x80\x01",
		api.MaxBytes:       "\x80\x80\x80\x01",
		1<<62 - 1:          "\xfe\xff\xff\xff\xff\xff\xff\xff\x7f",
		-1 << 62:           "\xff\xff\xff\xff\xff\xff\xff\xff\x7f",
		1 << 62:            "\x80\x80\x80\x80\x80\x80\x80\x80\x80\x01",
		math.MaxInt64:      "\xfe\xff\xff\xff\xff\xff\xff\xff\xff\x01",
		math.MinInt64:      "\xff\xff\xff\xff\xff\xff\xff\xff\xff\x01",
		math.MinInt64 + 1:  "\xfd\xff\xff\xff\xff\xff\xff\xff\xff\x01",
		-1<<62 - 1:         "\x81\x80\x80\x80\x80\x80\x80\x80\x80\x01",
		api.MaxBytes*2 - 1: "\xfe\xff\xff\x01",
	}
}

// edgeNumbers: around each power of two, on both sides of 0.
func edgeNumbers() []int {
	var l []int
	for shift := range 64 {
		for off := -2; off <= 2; off++ {
			n := 1<<shift + off
			l = append(l, n, -n)
		}
	}
	return l
}

// bigBytes: n bytes that differ from place to place.
func bigBytes(n int) []byte {
	b := make([]byte, n)
	for i := range b {
		b[i] = byte(i*7 + i>>8)
	}
	return b
}

// noise: bytes that look random and are the same at each run.
type noise uint64

func (x *noise) next(n int) int {
	*x = *x*6364136223846793005 + 1442695040888963407
	return int(uint64(*x)>>33) % n
}

func (x *noise) bytes(n int) []byte {
	b := make([]byte, n)
	for i := range b {
		b[i] = byte(x.next(256))
	}
	return b
}

func text(t *testing.T, s string) []byte {
	t.Helper()
	b, e := codec.Text(s)
	if e != api.OK {
		t.Fatalf("Text of %d bytes: %d", len(s), e)
	}
	return b
}

func join(l ...[]byte) []byte {
	return bytes.Join(l, nil)
}

func TestP102NumberIsWritten(t *testing.T) {
	for n, want := range numberForms() {
		if b := codec.Number(n); string(b) != want {
			t.Errorf("Number(%d): %x, not %x", n, b, want)
		}
	}
}

// Each group of seven bits costs one byte, and not one more.
func TestP102NumberHasAsFewBytesAsItNeeds(t *testing.T) {
	for _, n := range edgeNumbers() {
		folded := uint64(n) << 1
		if n < 0 {
			folded = -folded - 1
		}
		want := 1
		for folded > 127 {
			folded >>= 7
			want++
		}
		if b := codec.Number(n); len(b) != want {
			t.Errorf("Number(%d): %d bytes, not %d", n, len(b), want)
		}
	}
}

func TestP102TextIsWritten(t *testing.T) {
	for s, want := range map[string]string{
		"":                       "\x00",
		"a":                      "\x02a",
		"abc":                    "\x06abc",
		"\x00\xff\x80":           "\x06\x00\xff\x80",
		strings.Repeat("x", 63):  "\x7e" + strings.Repeat("x", 63),
		strings.Repeat("x", 64):  "\x80\x01" + strings.Repeat("x", 64),
		strings.Repeat("y", 300): "\xd8\x04" + strings.Repeat("y", 300),
	} {
		if b, e := codec.Text(s); string(b) != want || e != api.OK {
			t.Errorf("Text(%q): %x %d", s, b, e)
		}
	}
}

func TestP102TextOfMaxBytes(t *testing.T) {
	most := string(bigBytes(api.MaxBytes))
	if b, e := codec.Text(most); e != api.OK || string(b) != "\x80\x80\x80\x01"+most {
		t.Errorf("of MaxBytes: %d bytes, %d", len(b), e)
	}
	for _, more := range []string{"x", strings.Repeat("x", api.MaxBytes)} {
		if b, e := codec.Text(most + more); e != api.ErrSize || len(b) != 0 {
			t.Errorf("of %d more: %d bytes, %d", len(more), len(b), e)
		}
	}
}

func TestP105NumbersThereAndBack(t *testing.T) {
	l := edgeNumbers()
	for n := -20000; n <= 20000; n++ {
		l = append(l, n)
	}
	var all []byte
	for _, n := range l {
		b := codec.Number(n)
		r := codec.NewReader(b)
		if got := r.Number(); got != n || r.Done() != api.OK || r.Left() != 0 {
			t.Errorf("%d, written as %x, is read as %d, %d", n, b, got, r.Done())
		}
		all = append(all, b...)
	}
	r := codec.NewReader(all)
	for i, n := range l {
		if got := r.Number(); got != n {
			t.Fatalf("at %d: %d, not %d", i, got, n)
		}
	}
	if r.Done() != api.OK {
		t.Errorf("%d, %d left", r.Done(), r.Left())
	}
}

func TestP105TextsThereAndBack(t *testing.T) {
	for _, n := range []int{0, 1, 2, 62, 63, 64, 65, 8191, 8192, api.MaxBytes - 1, api.MaxBytes} {
		s := string(bigBytes(n))
		r := codec.NewReader(text(t, s))
		if got := r.Text(); got != s || r.Done() != api.OK || r.Left() != 0 {
			t.Errorf("of %d bytes: %d, %d left", n, r.Done(), r.Left())
		}
	}
}

// Whatever bytes are read as a number or a text are the bytes that writing it
// gives: all of up to two bytes, and noise in which long numbers are frequent.
func TestP105NothingElseHasTheBytes(t *testing.T) {
	check := func(b []byte) {
		r := codec.NewReader(b)
		n := r.Number()
		if r.Done() == api.OK && !bytes.Equal(codec.Number(n), b) {
			t.Errorf("%x is read as %d", b, n)
		}
		r = codec.NewReader(b)
		s := r.Text()
		if r.Done() == api.OK && !bytes.Equal(text(t, s), b) {
			t.Errorf("%x is read as %q", b, s)
		}
	}
	check(nil)
	for i := range 256 {
		check([]byte{byte(i)})
		for j := range 256 {
			check([]byte{byte(i), byte(j)})
		}
	}
	x := noise(5)
	for range 200000 {
		b := x.bytes(1 + x.next(12))
		for i := range b[:len(b)-1] {
			b[i] |= 128
		}
		b[len(b)-1] &= byte(x.next(128))
		check(b)
	}
}

// A text is not read as another one because of what stands in it.
func TestP105TextsAndNumbersInOneRow(t *testing.T) {
	b := join(text(t, "\x00\x01"), codec.Number(-7), text(t, ""), codec.Number(0), text(t, "\x80"))
	r := codec.NewReader(b)
	if r.Text() != "\x00\x01" || r.Number() != -7 || r.Text() != "" || r.Number() != 0 || r.Text() != "\x80" || r.Done() != api.OK {
		t.Errorf("%d, %d left", r.Done(), r.Left())
	}
}
