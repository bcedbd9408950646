package codec_test

import (
	"bytes"
	"math"
	"testing"

	"longstop/api"
	"longstop/codec"
)

// plainSum is the chapter's sentence, bit by bit.
func plainSum(b []byte) uint64 {
	var register uint64
	for _, x := range b {
		for bit := 7; bit >= 0; bit-- {
			out := register>>63 ^ uint64(x>>bit&1)
			register = register<<1 ^ out*0x42f0e1eba9ea3693
		}
	}
	return register
}

func record(t *testing.T, in []byte) []byte {
	t.Helper()
	b, e := codec.Record(in)
	if e != api.OK {
		t.Fatalf("Record of %d bytes: %d", len(in), e)
	}
	return b
}

func refused(t *testing.T, what string, b []byte, want api.Errno) {
	t.Helper()
	if in, size, e := codec.Unrecord(b); len(in) != 0 || size != 0 || e != want {
		t.Errorf("%s: %d bytes, size %d, %d, not %d", what, len(in), size, e, want)
	}
}

func TestP104SumIsCRC64(t *testing.T) {
	for s, want := range map[string]uint64{
		"":             0,
		"\x00":         0,
		"\x00\x00\x00": 0,
		"\x01":         0x42f0e1eba9ea3693,
		"123456789":    0x6c40df5f0b497347,
	} {
		if got := codec.Sum([]byte(s)); got != want {
			t.Errorf("Sum(%q): %x, not %x", s, got, want)
		}
	}
	for i := range 256 {
		if b := []byte{byte(i)}; codec.Sum(b) != plainSum(b) {
			t.Errorf("Sum of the byte %d: %x", i, codec.Sum(b))
		}
	}
	x := noise(2)
	for n := range 400 {
		if b := x.bytes(n); codec.Sum(b) != plainSum(b) {
			t.Errorf("Sum of %d bytes: %x", n, codec.Sum(b))
		}
	}
	if b := bigBytes(api.MaxBytes * 2); codec.Sum(b) != plainSum(b) {
		t.Errorf("Sum of %d bytes: %x", len(b), codec.Sum(b))
	}
}

func TestP102RecordIsWritten(t *testing.T) {
	nothing := "\x00\x00\x00\x00\x00\x00\x00\x00\x00"
	for in, want := range map[string]string{
		"":          nothing,
		"\x01":      "\x02\x01\x42\xf0\xe1\xeb\xa9\xea\x36\x93",
		"123456789": "\x12123456789\x6c\x40\xdf\x5f\x0b\x49\x73\x47",
	} {
		if b, e := codec.Record([]byte(in)); string(b) != want || e != api.OK {
			t.Errorf("Record(%q): %x %d", in, b, e)
		}
	}
	if b, e := codec.Record(nil); string(b) != nothing || e != api.OK {
		t.Errorf("Record of nil: %x %d", b, e)
	}
}

func TestP102RecordOfMaxBytes(t *testing.T) {
	most := bigBytes(api.MaxBytes)
	if b, e := codec.Record(most); e != api.OK || len(b) != 4+api.MaxBytes+8 || !bytes.HasPrefix(b, append([]byte("\x80\x80\x80\x01"), most...)) {
		t.Errorf("of MaxBytes: %d bytes, %d", len(b), e)
	}
	for _, n := range []int{api.MaxBytes + 1, api.MaxBytes * 2} {
		if b, e := codec.Record(bigBytes(n)); e != api.ErrSize || len(b) != 0 {
			t.Errorf("of %d: %d bytes, %d", n, len(b), e)
		}
	}
}

func TestP105RecordsThereAndBack(t *testing.T) {
	for _, n := range []int{0, 1, 2, 7, 8, 9, 63, 64, 65, 8191, 8192, api.MaxBytes - 1, api.MaxBytes} {
		in := bigBytes(n)
		b := record(t, in)
		for _, behind := range []string{"", "\x00", "\xff\xff", string(b)} {
			got, size, e := codec.Unrecord(join(b, []byte(behind)))
			if !bytes.Equal(got, in) || size != len(b) || e != api.OK {
				t.Errorf("of %d bytes, %d behind: %d bytes, size %d, %d", n, len(behind), len(got), size, e)
			}
		}
	}
}

// Whatever is told as a record is what Record writes.
func TestP105NothingElseIsARecord(t *testing.T) {
	x := noise(3)
	for range 100000 {
		in := x.bytes(x.next(4))
		b := record(t, in)
		for range x.next(3) {
			b[x.next(len(b))] = byte(x.next(256))
		}
		got, size, e := codec.Unrecord(b)
		if e == api.OK && !bytes.Equal(record(t, got), b[:size]) {
			t.Fatalf("%x is read as %x of %d bytes", b, got, size)
		}
	}
}

func TestP104RecordsThatEndTooEarly(t *testing.T) {
	refused(t, "nil", nil, api.ErrEnd)
	for _, n := range []int{0, 1, 5, 64, 300} {
		b := record(t, bigBytes(n))
		for end := range b {
			refused(t, "a beginning", b[:end:end], api.ErrEnd)
		}
	}
	most := record(t, bigBytes(api.MaxBytes))
	refused(t, "but for the last byte", most[:len(most)-1], api.ErrEnd)
	refused(t, "but for the sum", most[:len(most)-8], api.ErrEnd)
	refused(t, "the length alone", most[:4], api.ErrEnd)
}

// Room behind the bytes does not count to them, even if the rest stands there.
func TestP104TheRoomBehindIsNotRead(t *testing.T) {
	b := record(t, []byte("hello"))
	for end := range b {
		refused(t, "with room", b[:end], api.ErrEnd)
	}
}

func TestP104RecordsOfWrongLengths(t *testing.T) {
	for s, want := range wrongNumbers() {
		refused(t, "no number", []byte(s), want)
		if want == api.ErrForm {
			refused(t, "no number, and more", join([]byte(s), bigBytes(30)), want)
		}
	}
	for _, n := range []int{-1, -2, -api.MaxBytes, math.MinInt64, api.MaxBytes + 1, api.MaxBytes * 2, 1 << 40, math.MaxInt64 - 8, math.MaxInt64} {
		for _, behind := range []int{0, 1, 100, api.MaxBytes + 9} {
			refused(t, "a wrong length", join(codec.Number(n), bigBytes(behind)), api.ErrForm)
		}
	}
	in := bigBytes(api.MaxBytes + 1)
	sum := codec.Sum(in)
	whole := join(codec.Number(len(in)), in)
	for shift := 56; shift >= 0; shift -= 8 {
		whole = append(whole, byte(sum>>shift))
	}
	refused(t, "one more than MaxBytes, with its sum", whole, api.ErrForm)
}

// The length may not be padded, though the sum behind it would be right.
func TestP104ALengthThatIsNotJustAsItIsWritten(t *testing.T) {
	refused(t, "a padded length", []byte("\x80\x00\x00\x00\x00\x00\x00\x00\x00\x00"), api.ErrForm)
	b := record(t, []byte("hello"))
	refused(t, "a padded length of 5", join([]byte{b[0] | 128, 0}, b[1:]), api.ErrForm)
}

func TestP104SumsThatAreAnother(t *testing.T) {
	refused(t, "a sum of nothing that is 1", []byte("\x00\x00\x00\x00\x00\x00\x00\x00\x01"), api.ErrSum)
	refused(t, "a sum turned round", []byte("\x02\x01\x93\x36\xea\xa9\xeb\xe1\xf0\x42"), api.ErrSum)
	refused(t, "a sum of bytes in another order", join(record(t, []byte("ab"))[:1], []byte("ba"), record(t, []byte("ab"))[3:]), api.ErrSum)
	refused(t, "a sum with the length in it", func() []byte {
		b := []byte("\x02a")
		sum := codec.Sum(b)
		for shift := 56; shift >= 0; shift -= 8 {
			b = append(b, byte(sum>>shift))
		}
		return b
	}(), api.ErrSum)
}

func TestP106OneByteThatIsAnother(t *testing.T) {
	for _, in := range []string{"", "\x00", "a", "hello", "\x00\x00\x00\x00", "\xff\xff\xff\xff\xff\xff\xff\xff\xff", string(bigBytes(100))} {
		b := record(t, []byte(in))
		for at := len(codec.Number(len(in))); at < len(b); at++ {
			was := b[at]
			for flip := 1; flip < 256; flip++ {
				b[at] = was ^ byte(flip)
				refused(t, "a rotten byte", b, api.ErrSum)
			}
			b[at] = was
		}
	}
}

func TestP106OneByteOfAGreatRecord(t *testing.T) {
	b := record(t, bigBytes(api.MaxBytes))
	for _, at := range []int{4, 5, len(b) / 2, len(b) - 9, len(b) - 8, len(b) - 1} {
		b[at] ^= 64
		refused(t, "a rotten byte", b, api.ErrSum)
		b[at] ^= 64
	}
	if _, _, e := codec.Unrecord(b); e != api.OK {
		t.Error(e)
	}
}

// Arguments stay as they are, with the room behind them; answers share nothing
// with them or with each other.
func TestP101ArgumentsAndAnswersAreApart(t *testing.T) {
	room := []byte("hello and more that is not handed in")
	was := string(room)
	in := room[:5]
	first, _ := codec.Record(in)
	second, _ := codec.Record(in)
	codec.Sum(in)
	if string(room) != was {
		t.Errorf("the room is changed: %q", room)
	}
	want := string(first)
	scribble(second)
	scribble(codec.Number(300))
	scribble(text(t, "hello"))
	in[0] = 'j'
	if string(first) != want {
		t.Errorf("%x, not %x", first, want)
	}
	if string(codec.Number(300)) != "\xd8\x04" || string(text(t, "hello")) != "\x0ahello" {
		t.Error("an answer is another one behind a scribble")
	}
}

func TestP101UnrecordAnswersNewMemory(t *testing.T) {
	b := record(t, []byte("hello"))
	was := string(b)
	one, _, _ := codec.Unrecord(b)
	two, _, _ := codec.Unrecord(b)
	scribble(one)
	if string(b) != was || string(two) != "hello" {
		t.Errorf("%x %q", b, two)
	}
	clear(b)
	if string(two) != "hello" {
		t.Errorf("%q", two)
	}
}

// scribble writes over a list and over the room behind it.
func scribble(b []byte) {
	b = b[:cap(b)]
	for i := range b {
		b[i] = 170
	}
}

// Pure functions: the same at each call, whatever was called in between.
func TestP101TheSameAnswerAgain(t *testing.T) {
	x := noise(4)
	for range 200 {
		b := x.bytes(x.next(40))
		sum, in := codec.Sum(b), record(t, b)
		got, size, e := codec.Unrecord(b)
		codec.Unrecord(in)
		codec.NewReader(b).Text()
		again, sizeAgain, f := codec.Unrecord(b)
		if codec.Sum(b) != sum || !bytes.Equal(record(t, b), in) || !bytes.Equal(got, again) || size != sizeAgain || e != f {
			t.Fatalf("%x", b)
		}
	}
}
