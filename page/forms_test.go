package page_test

import (
	"bytes"
	"slices"
	"testing"

	"longstop/api"
	"longstop/page"
)

// somePages: slots of pages of every sort.
func somePages() [][]string {
	return [][]string{
		nil, {""}, {"a"}, {"a", "b"}, {empty, ""}, {empty, empty, "abc"}, {"one", empty, "", "three"},
		{repeated(498)}, {repeated(300), repeated(194)}, {empty, repeated(494)}, {"\x00\x00", "\x00", empty, "\xff\x00"},
		make([]string, 125), append(make([]string, 124), "ab"), append(slices.Repeat([]string{empty}, 124), ""), {"", "", "x", "", ""},
	}
}

func TestP1201Right(t *testing.T) {
	for _, l := range somePages() {
		holds(t, short(l), pageOf(l...), l...)
	}
}

func TestP1201OtherLengths(t *testing.T) {
	isNone(t, "nil", nil)
	isNone(t, "empty", []byte{})
	for _, l := range somePages() {
		p := pageOf(l...)
		for _, n := range []int{0, 1, 2, 3, 6, 8, 100, 503, 504, 505, 510, 511} {
			// The whole page lies there, but what is handed in is shorter.
			isNone(t, "cut short", p[:n])
			isNone(t, "cut short", slices.Clone(p[:n]))
			isNone(t, "cut at the beginning", p[512-n:])
		}
		for _, n := range []int{1, 2, 8, 512} {
			isNone(t, "bytes behind", slices.Concat(p, make([]byte, n)))
			isNone(t, "bytes ahead", slices.Concat(make([]byte, n), p))
		}
		isNone(t, "twice", slices.Concat(p, p))
	}
	isNone(t, "a great one", make([]byte, 1<<20))
	isNone(t, "none but a sum", make([]byte, 8))
}

func TestP1206EachByteAnother(t *testing.T) {
	for _, l := range [][]string{nil, {"a"}, {"one", empty, "", "three"}, {repeated(300), repeated(194)}, make([]string, 125)} {
		p := pageOf(l...)
		for i := range p {
			for _, x := range []byte{1, 2, 4, 8, 16, 32, 64, 128, 255, 0x5a} {
				q := slices.Clone(p)
				q[i] ^= x
				if page.Right(q) || page.Slots(q) != 0 || page.Room(q) != 0 {
					t.Fatalf("%q: byte %d: still a page", l, i)
				}
				if _, _, e := page.Insert(q, nil); e != api.ErrForm {
					t.Fatalf("%q: byte %d: %d", l, i, e)
				}
			}
		}
	}
	p := pageOf("one", empty, "", "three")
	for i := range p {
		q := slices.Clone(p)
		q[i]++
		isNone(t, "a byte is another one", q)
	}
	for i := range 512 {
		for x := range 256 {
			q := slices.Clone(p)
			q[i] = byte(x)
			if page.Right(q) != (byte(x) == p[i]) {
				t.Fatalf("byte %d is %d", i, x)
			}
		}
	}
}

func TestP1201AnotherSum(t *testing.T) {
	p := pageOf("a")
	for name, sum := range map[string][]byte{
		"zeros":              make([]byte, 8),
		"turned round":       {0x64, 0x7a, 0x24, 0x3f, 0xee, 0xc3, 0x7c, 0x5f},
		"another page's":     pageOf("b")[504:],
		"all bits the other": {0xa0, 0x83, 0x3c, 0x11, 0xc0, 0xdb, 0x85, 0x9b},
	} {
		isNone(t, name, slices.Concat(p[:504], sum))
	}
}

// Sums are right here, and just one field is not.
func TestP1201WrongFields(t *testing.T) {
	for _, c := range []struct {
		what       string
		head, tail []byte
	}{
		{"a count without slots", number(1), nil},
		{"a count without slots", number(2), nil},
		{"a count of more slots than there are", numbers(2, 503, 1), []byte("a")},
		{"a count of fewer slots than there are", numbers(1, 503, 1, 502, 1), []byte("ba")},
		{"no count, but a slot", numbers(0, 503, 1), []byte("a")},
		{"no count, but a record", number(0), []byte("a")},
		{"a count with the higher byte last", slices.Concat([]byte{1, 0}, numbers(503, 1)), []byte("a")},
		{"an empty last slot", numbers(2, 503, 1, 0, 0), []byte("a")},
		{"two empty last slots", numbers(3, 503, 1, 0, 0, 0, 0), []byte("a")},
		{"an empty slot alone", numbers(1, 0, 0), nil},
		{"an empty slot's length", numbers(2, 0, 1, 503, 1), []byte("a")},
		{"an empty slot's length", numbers(2, 0, 504, 503, 1), []byte("a")},
		{"an empty slot's length", numbers(2, 0, 505, 503, 1), []byte("a")},
		{"an empty slot's length", numbers(2, 0, 65535, 503, 1), []byte("a")},
		{"an empty slot's begin", numbers(2, 1, 0, 503, 1), []byte("a")},
		{"an empty slot's begin", numbers(2, 10, 0, 503, 1), []byte("a")},
		{"an empty slot's begin", numbers(2, 503, 0, 503, 1), []byte("a")},
		{"an empty last slot's begin and length", numbers(2, 503, 1, 1, 0), []byte("a")},
		{"a record without bytes that begins elsewhere", numbers(2, 503, 1, 504, 0), []byte("a")},
		{"a record without bytes that begins elsewhere", numbers(2, 503, 1, 502, 0), []byte("a")},
		{"a record without bytes that begins elsewhere", numbers(1, 503, 0), nil},
		{"a record without bytes that begins elsewhere", numbers(1, 505, 0), nil},
		{"a record without bytes at its own slot", numbers(1, 6, 0), nil},
		{"records with a zero between", numbers(2, 503, 1, 501, 1), []byte("b\x00a")},
		{"records that lie on one another", numbers(2, 502, 2, 502, 1), []byte("ba")},
		{"records that lie on one another", numbers(2, 502, 2, 501, 2), []byte("cba")},
		{"the same record twice", numbers(2, 503, 1, 503, 1), []byte("a")},
		{"records that end ahead of the sum", numbers(1, 502, 1), []byte("a\x00")},
		{"records that end ahead of the sum", numbers(2, 502, 1, 501, 1), []byte("ba\x00")},
		{"records that end in the sum", numbers(1, 503, 2), []byte("a")},
		{"records that end behind the sum", numbers(1, 511, 1), nil},
		{"records that end behind the sum", numbers(1, 504, 8), nil},
		{"records that end behind the page", numbers(1, 504, 9), nil},
		{"records that begin behind the page", numbers(1, 65535, 65535), nil},
		{"records that begin behind the page", numbers(2, 65535, 0, 503, 1), []byte("a")},
		{"a length far too great", numbers(1, 503, 65535), []byte("a")},
		{"records in another order", numbers(2, 502, 1, 503, 1), []byte("ab")},
		{"records in another order", numbers(3, 503, 1, 501, 1, 502, 1), []byte("bca")},
		{"a begin with the higher byte last", slices.Concat(number(1), []byte{0xf7, 1}, number(1)), []byte("a")},
		{"a length with the higher byte last", slices.Concat(numbers(1, 503), []byte{1, 0}), []byte("a")},
		{"a length and a begin", numbers(1, 1, 503), []byte("a")},
		{"a length that is too short", numbers(1, 503, 1), []byte("ba")},
		{"a length that is too long", numbers(1, 502, 1), []byte("ba")},
		{"a byte behind the slots", slices.Concat(numbers(1, 503, 1), []byte{1}), []byte("a")},
		{"a byte ahead of the records", numbers(1, 503, 1), []byte("\x01\x00a")},
		{"a byte of a page without slots", number(0), []byte("\x01\x00")},
		{"a byte in the middle", slices.Concat(numbers(1, 503, 1), make([]byte, 200), []byte{255}), []byte("a")},
	} {
		p := laid(c.head, c.tail)
		if _, ok := toldPage(p); ok {
			t.Fatalf("%s: it is a page", c.what)
		}
		isNone(t, c.what, p)
	}
}

// A record that reaches into the slots is none, also where the bytes fit.
func TestP1201RecordsInTheSlots(t *testing.T) {
	for from := range 6 {
		isNone(t, "a record from the slots on", laid(numbers(1, from, 504-from), nil))
	}
	for from := range 10 {
		isNone(t, "a last record from the slots on", laid(numbers(2, 300, 204, from, 300-from), nil))
	}
	zeros := string(make([]byte, 498))
	holds(t, "just behind its slot", laid(numbers(1, 6, 498), nil), zeros)
	holds(t, "just behind the slots", laid(numbers(2, 300, 204, 10, 290), nil), zeros[:204], zeros[:290])
	isNone(t, "an empty last slot", laid(numbers(2, 10, 494, 0, 0), nil))
	// Its own slot's last byte would be its first one, too.
	isNone(t, "one more", laid(slices.Concat(numbers(1, 5), []byte{1, 0xf3}), nil))
}

// Records are there more than once, so that they need more than the room.
func TestP1201MoreThanTheRoom(t *testing.T) {
	for _, c := range [][]int{
		{2, 10, 494, 10, 494}, {3, 300, 204, 300, 204, 300, 204}, {2, 204, 300, 204, 300}, {2, 252, 252, 14, 490},
	} {
		isNone(t, "overlaid", laid(numbers(c...), nil))
	}
	head := number(125)
	for range 125 {
		head = append(head, numbers(2, 502)...)
	}
	isNone(t, "all of the page in each slot", laid(head, nil))
}

func TestP1201CountsWithoutRoom(t *testing.T) {
	for _, count := range []int{125, 126, 127, 128, 200, 255, 256, 257, 503, 504, 16384, 16385, 32767, 32768, 65535} {
		p := make([]byte, 504)
		copy(p, number(count))
		isNone(t, "empty slots", sealed(p))
		for i := 2; i+4 <= 504; i += 4 {
			copy(p[i:], numbers(504, 0))
		}
		if count == 125 {
			holds(t, "125", sealed(p), make([]string, 125)...)
			continue
		}
		isNone(t, "records without bytes", sealed(p))
		// Two bytes would be left, as those of a slot cut short.
		copy(p[502:], number(504))
		isNone(t, "records without bytes", sealed(p))
	}
}

func TestP1201AnyBytes(t *testing.T) {
	for x := range 256 {
		p := bytes.Repeat([]byte{byte(x)}, 512)
		if _, ok := toldPage(p); ok != (x == 0) || page.Right(p) != ok {
			t.Errorf("all bytes %d: %v", x, page.Right(p))
		}
		if x > 0 {
			isNone(t, "all the same", p)
			isNone(t, "all the same, with a sum", sealed(p))
		}
	}
	p := make([]byte, 504)
	for i := range p {
		p[i] = byte(i)
	}
	isNone(t, "rising", sealed(p))
}
