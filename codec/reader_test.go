package codec_test

import (
	"fmt"
	"math"
	"strings"
	"testing"

	"longstop/api"
	"longstop/codec"
)

// unmade: Readers that NewReader did not make.
func unmade() map[string]*codec.Reader {
	var declared codec.Reader
	return map[string]*codec.Reader{"nil": nil, "new": new(codec.Reader), "literal": {}, "declared": &declared}
}

func TestP101ReadersThatNobodyMade(t *testing.T) {
	for name, r := range unmade() {
		for round := range 2 {
			if n := r.Number(); n != 0 {
				t.Errorf("%s, round %d: Number %d", name, round, n)
			}
			if s := r.Text(); s != "" {
				t.Errorf("%s, round %d: Text %q", name, round, s)
			}
			if n := r.Left(); n != 0 {
				t.Errorf("%s, round %d: Left %d", name, round, n)
			}
			if e := r.Err(); e != api.ErrArg {
				t.Errorf("%s, round %d: Err %d", name, round, e)
			}
			if e := r.Done(); e != api.ErrArg {
				t.Errorf("%s, round %d: Done %d", name, round, e)
			}
		}
	}
}

// A Reader at its beginning, without bytes, is one that NewReader made.
func TestP101NilAndEmptyBytesAreTheSame(t *testing.T) {
	for _, b := range [][]byte{nil, {}, make([]byte, 0, 9), make([]byte, 9)[9:]} {
		r := codec.NewReader(b)
		if r.Left() != 0 || r.Err() != api.OK || r.Done() != api.OK {
			t.Errorf("at first: %d %d %d", r.Left(), r.Err(), r.Done())
		}
		if r.Number() != 0 || r.Err() != api.ErrEnd {
			t.Errorf("Number: %d", r.Err())
		}
		r = codec.NewReader(b)
		if r.Text() != "" || r.Err() != api.ErrEnd {
			t.Errorf("Text: %d", r.Err())
		}
	}
}

func TestP101AReaderKeepsNoArgument(t *testing.T) {
	room := []byte{6, 'a', 'b', 'c', 9, 9, 9, 9}
	b := room[:4]
	r := codec.NewReader(b)
	copy(b, []byte{0, 0, 0, 0})
	s := r.Text()
	if s != "abc" || r.Done() != api.OK {
		t.Errorf("%q %d", s, r.Done())
	}
	if string(room) != "\x00\x00\x00\x00\x09\x09\x09\x09" {
		t.Errorf("the room is changed: %x", room)
	}
}

func TestP101ReadersAreApart(t *testing.T) {
	b := []byte{2, 4, 6}
	r, q := codec.NewReader(b), codec.NewReader(b)
	if r.Number() != 1 || r.Number() != 2 || q.Number() != 1 || r.Number() != 3 || q.Left() != 2 || r.Left() != 0 {
		t.Errorf("%d %d left", r.Left(), q.Left())
	}
	if r.Number() != 0 || r.Err() != api.ErrEnd || q.Err() != api.OK || q.Number() != 2 {
		t.Errorf("%d %d", r.Err(), q.Err())
	}
}

func TestP103NumbersAreRead(t *testing.T) {
	for want, s := range numberForms() {
		r := codec.NewReader([]byte(s + "\x00\xff"))
		if n := r.Number(); n != want || r.Left() != 2 || r.Err() != api.OK {
			t.Errorf("%x: %d, %d left, %d", s, n, r.Left(), r.Err())
		}
		if r.Done() != api.ErrForm || r.Err() != api.OK || r.Number() != 0 || r.Left() != 1 {
			t.Errorf("%x: behind it %d, %d left, %d", s, r.Done(), r.Left(), r.Err())
		}
	}
}

// wrongNumbers: bytes that no number begins, and the error of each.
func wrongNumbers() map[string]api.Errno {
	nine := strings.Repeat("\x80", 9)
	full := strings.Repeat("\xff", 9)
	return map[string]api.Errno{
		"":                          api.ErrEnd,
		"\x80":                      api.ErrEnd,
		"\xff":                      api.ErrEnd,
		"\x80\x80":                  api.ErrEnd,
		nine:                        api.ErrEnd,
		full:                        api.ErrEnd,
		"\x80\x00":                  api.ErrForm,
		"\xff\x00":                  api.ErrForm,
		"\x80\x80\x00":              api.ErrForm,
		"\x80\x00\x01":              api.ErrForm,
		nine[1:] + "\x00":           api.ErrForm,
		nine + "\x00":               api.ErrForm,
		nine + "\x02":               api.ErrForm,
		full + "\x02":               api.ErrForm,
		full + "\x03":               api.ErrForm,
		full + "\x7f":               api.ErrForm,
		nine + "\x80":               api.ErrForm,
		nine + "\x81":               api.ErrForm,
		full + "\x80\x00":           api.ErrForm,
		full + "\x81\x01":           api.ErrForm,
		full + "\xff\x01":           api.ErrForm,
		strings.Repeat("\xff", 40):  api.ErrForm,
		strings.Repeat("\x80", 400): api.ErrForm,
	}
}

func TestP103WrongNumbers(t *testing.T) {
	for s, want := range wrongNumbers() {
		r := codec.NewReader([]byte("\x02" + s))
		first := r.Number()
		if n := r.Number(); first != 1 || n != 0 || r.Err() != want || r.Done() != want || r.Left() != len(s) {
			t.Errorf("Number of %x: %d, %d, %d, %d left", s, n, r.Err(), r.Done(), r.Left())
		}
		r = codec.NewReader([]byte(s))
		if x := r.Text(); x != "" || r.Err() != want || r.Done() != want || r.Left() != len(s) {
			t.Errorf("Text of %x: %q, %d, %d, %d left", s, x, r.Err(), r.Done(), r.Left())
		}
	}
}

func TestP103TextsAreRead(t *testing.T) {
	r := codec.NewReader(join(text(t, "abc"), text(t, ""), text(t, "\x00\xff"), []byte{1}))
	for _, step := range []struct {
		text string
		left int
	}{{"abc", 5}, {"", 4}, {"\x00\xff", 1}} {
		if s := r.Text(); s != step.text || r.Left() != step.left || r.Err() != api.OK {
			t.Errorf("%q, %d left, %d", s, r.Left(), r.Err())
		}
	}
	if r.Done() != api.ErrForm {
		t.Error(r.Done())
	}
}

// Whatever the bytes behind such a length are: few, or as many as it says.
func TestP103TextsOfWrongLengths(t *testing.T) {
	for _, n := range []int{-1, -2, -64, -65, -api.MaxBytes, math.MinInt64, api.MaxBytes + 1, api.MaxBytes * 2, 1 << 40, math.MaxInt64 - 1, math.MaxInt64} {
		for _, behind := range []int{0, 1, 100, api.MaxBytes + 1} {
			b := join(codec.Number(5), codec.Number(n), bigBytes(behind))
			r := codec.NewReader(b)
			if r.Number() != 5 {
				t.Fatal(n)
			}
			if s := r.Text(); s != "" || r.Err() != api.ErrForm || r.Done() != api.ErrForm || r.Left() != len(b)-1 {
				t.Errorf("length %d, %d behind: %d bytes, %d, %d left", n, behind, len(s), r.Err(), r.Left())
			}
		}
	}
}

func TestP103TextsThatEndTooEarly(t *testing.T) {
	for _, s := range []string{"a", "abc", strings.Repeat("x", 64), strings.Repeat("x", 9000)} {
		b := text(t, s)
		for n := range b {
			r := codec.NewReader(b[:n])
			if got := r.Text(); got != "" || r.Err() != api.ErrEnd || r.Done() != api.ErrEnd || r.Left() != n {
				t.Fatalf("%d of %d bytes: %q, %d, %d left", n, len(b), got, r.Err(), r.Left())
			}
		}
	}
	most := text(t, string(bigBytes(api.MaxBytes)))
	r := codec.NewReader(most[:len(most)-1])
	if s := r.Text(); s != "" || r.Err() != api.ErrEnd || r.Left() != len(most)-1 {
		t.Errorf("%d bytes, %d, %d left", len(s), r.Err(), r.Left())
	}
}

// The bytes left would do for a number and for a text: they are not read, and
// the first error stays.
func TestP103ReadingOnBehindAnError(t *testing.T) {
	for _, c := range []struct {
		bytes string
		text  bool
		want  api.Errno
	}{
		{"\x80\x00\x02\x02a", false, api.ErrForm},
		{"\x80", false, api.ErrEnd},
		{"\x01\x02a", true, api.ErrForm},
		{"\x04a", true, api.ErrEnd},
		{"\x08\x02\x02", true, api.ErrEnd},
	} {
		r := codec.NewReader([]byte(c.bytes))
		if c.text {
			r.Text()
		} else {
			r.Number()
		}
		for range 3 {
			got := fmt.Sprint(r.Number(), r.Text() == "", r.Left(), r.Err(), r.Done())
			if want := fmt.Sprint(0, true, len(c.bytes), c.want, c.want); got != want {
				t.Errorf("%x: %s, not %s", c.bytes, got, want)
			}
		}
	}
}

// What could not be read as a text is not read as the number it begins with.
func TestP103AnErrorOfATextStopsNumbers(t *testing.T) {
	r := codec.NewReader([]byte{6, 'a', 'b'})
	if r.Text() != "" || r.Number() != 0 || r.Left() != 3 || r.Done() != api.ErrEnd {
		t.Errorf("%d left, %d", r.Left(), r.Done())
	}
}

func TestP103DoneIsNoError(t *testing.T) {
	r := codec.NewReader([]byte{2, 4})
	for n := 1; n <= 2; n++ {
		if r.Done() != api.ErrForm || r.Err() != api.OK || r.Number() != n {
			t.Errorf("ahead of %d: %d %d", n, r.Done(), r.Err())
		}
	}
	if r.Done() != api.OK || r.Err() != api.OK {
		t.Errorf("at the end: %d %d", r.Done(), r.Err())
	}
}

func TestP101AnyBytesAreReadWithoutAPanic(t *testing.T) {
	x := noise(1)
	for range 50000 {
		b := x.bytes(x.next(24))
		r := codec.NewReader(b)
		left := r.Left()
		for r.Err() == api.OK {
			if x.next(2) == 0 {
				r.Number()
			} else {
				r.Text()
			}
			now := r.Left()
			if now > left || now < 0 || (now == left) != (r.Err() != api.OK) {
				t.Fatalf("%x: %d left, then %d, %d", b, left, now, r.Err())
			}
			left = now
		}
		if r.Err() != api.ErrEnd && r.Err() != api.ErrForm {
			t.Fatalf("%x: %d", b, r.Err())
		}
	}
}
