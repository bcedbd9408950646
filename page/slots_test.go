package page_test

import (
	"bytes"
	"encoding/hex"
	"slices"
	"testing"

	"longstop/api"
	"longstop/page"
)

// bytesOf is of a page's first bytes, its records and its sum, as hex digits.
func bytesOf(head, tail, sum string) []byte {
	h, _ := hex.DecodeString(head)
	s, _ := hex.DecodeString(sum)
	return slices.Concat(h, make([]byte, 504-len(h)-len(tail)), []byte(tail), s)
}

func TestP1202Bytes(t *testing.T) {
	for _, c := range []struct {
		slots []string
		bytes []byte
	}{
		{nil, make([]byte, 512)},
		{[]string{"a"}, bytesOf("000101f70001", "a", "5f7cc3ee3f247a64")},
		{[]string{""}, bytesOf("000101f80000", "", "bbd40f03138551bd")},
		{[]string{"one", empty, "", "three"}, bytesOf("000401f500030000000001f5000001f00005", "threeone", "0dae14255c4524de")},
	} {
		p := made(t, c.slots...)
		if !bytes.Equal(p, c.bytes) {
			t.Errorf("%q: %x, not %x", c.slots, p, c.bytes)
		}
		holds(t, short(c.slots), c.bytes, c.slots...)
	}
}

// made gives the page with these slots, by Inserts and Deletes alone.
func made(t *testing.T, l ...string) []byte {
	t.Helper()
	p := page.New()
	for i, s := range l {
		if s == empty {
			s = ""
		}
		p = insert(t, p, s, i)
	}
	for i, s := range l {
		if s == empty {
			p = remove(t, p, i)
		}
	}
	return p
}

func TestP1202New(t *testing.T) {
	p := page.New()
	holds(t, "New", p)
	if len(p) != 512 || page.Room(p) != 502 {
		t.Error(len(p), page.Room(p))
	}
	for _, slot := range []int{least, -1, 0, 1, great} {
		noGet(t, p, slot)
		noUpdate(t, p, slot, "", api.ErrNone)
		noDelete(t, p, slot, api.ErrNone)
	}
}

func TestP1202Example(t *testing.T) {
	p, slot, e := page.Insert(page.New(), []byte("a"))
	if slot != 0 || e != api.OK || page.Room(p) != 497 {
		t.Error(slot, e, page.Room(p))
	}
}

func TestP1202Get(t *testing.T) {
	p := pageOf("one", empty, "", "\x00\xff", empty, empty, "z")
	for slot, want := range []string{"one", empty, "", "\x00\xff", empty, empty, "z"} {
		r, ok := page.Get(p, slot)
		if want == empty {
			noGet(t, p, slot)
		} else if !ok || string(r) != want {
			t.Errorf("%d: %q, %v", slot, r, ok)
		}
	}
	for _, slot := range []int{least, -7, -2, -1, 7, 8, 125, 126, 1 << 16, 1<<16 + 1, 1 << 32, great} {
		noGet(t, p, slot)
	}
}

// A record without bytes is one: its slot is not empty.
func TestP1202RecordWithoutBytes(t *testing.T) {
	p := made(t, "", empty, "")
	holds(t, "without bytes", p, "", empty, "")
	if r, ok := page.Get(p, 0); !ok || len(r) != 0 {
		t.Error(r, ok)
	}
	noGet(t, p, 1)
	noUpdate(t, p, 1, "", api.ErrNone)
	noDelete(t, p, 1, api.ErrNone)
	holds(t, "Insert", insert(t, p, "", 1), "", "", "")
	holds(t, "Update", update(t, p, 0, ""), "", empty, "")
	holds(t, "Update", update(t, p, 2, "x"), "", empty, "x")
	holds(t, "Update", update(t, pageOf("x", "y"), 0, ""), "", "y")
	holds(t, "Delete", remove(t, p, 0), empty, empty, "")
	holds(t, "Delete", remove(t, p, 2), "")
	// A nil list is one without bytes.
	q, slot, e := page.Insert(p, nil)
	if slot != 1 || e != api.OK {
		t.Error(slot, e)
	}
	holds(t, "Insert of nil", q, "", "", "")
	q, e = page.Update(pageOf("x"), 0, nil)
	if e != api.OK {
		t.Error(e)
	}
	holds(t, "Update to nil", q, "")
}

func TestP1202Room(t *testing.T) {
	all := make([]string, 125)
	for _, c := range []struct {
		slots []string
		room  int
	}{
		{nil, 502},
		{[]string{""}, 498},
		{[]string{"a"}, 497},
		{[]string{empty, ""}, 494},
		{[]string{empty, empty, "abc"}, 487},
		{[]string{repeated(498)}, 0},
		{[]string{repeated(497)}, 1},
		{[]string{repeated(300), repeated(194)}, 0},
		{[]string{empty, repeated(300), repeated(190)}, 0},
		{all[:124], 6},
		{all, 2},
		{append(slices.Clone(all[:124]), "ab"), 0},
	} {
		holds(t, short(c.slots), pageOf(c.slots...), c.slots...)
		if got := page.Room(made(t, c.slots...)); got != c.room {
			t.Errorf("%d slots: %d, not %d", len(c.slots), got, c.room)
		}
	}
}

func TestP1202InsertIntoAFurtherSlot(t *testing.T) {
	p := page.New()
	var l []string
	for i, s := range []string{"one", "", "three", "a\x00b", "\xff\xfe"} {
		p = insert(t, p, s, i)
		l = append(l, s)
		holds(t, s, p, l...)
	}
	holds(t, "just fits", insert(t, page.New(), repeated(498), 0), repeated(498))
	for _, n := range []int{499, 500, 502, 503, 504, 512, 1 << 16, 1<<16 + 1, 1 << 20} {
		noInsert(t, page.New(), repeated(n), api.ErrFull)
	}
	// Room 93, 4 of which the slot takes.
	p = pageOf(repeated(200), repeated(201))
	holds(t, "just fits", insert(t, p, repeated(89), 2), repeated(200), repeated(201), repeated(89))
	noInsert(t, p, repeated(90), api.ErrFull)
	// A record without bytes needs its four.
	holds(t, "four left", insert(t, pageOf(repeated(494)), "", 1), repeated(494), "")
	noInsert(t, pageOf(repeated(494)), "x", api.ErrFull)
	noInsert(t, pageOf(repeated(495)), "", api.ErrFull)
	noInsert(t, pageOf(repeated(498)), "", api.ErrFull)
}

func TestP1202InsertIntoTheFirstEmptySlot(t *testing.T) {
	p := pageOf("a", empty, "b", empty, empty, "c")
	p = insert(t, p, "new", 1)
	holds(t, "first", p, "a", "new", "b", empty, empty, "c")
	p = insert(t, p, "", 3)
	holds(t, "second", p, "a", "new", "b", "", empty, "c")
	p = insert(t, p, "third", 4)
	holds(t, "third", p, "a", "new", "b", "", "third", "c")
	p = insert(t, p, "fourth", 6)
	holds(t, "further", p, "a", "new", "b", "", "third", "c", "fourth")
	holds(t, "at the beginning", insert(t, pageOf(empty, "x"), "y", 0), "y", "x")
	// No four bytes for a slot that is there: room 94 all for the record.
	p = pageOf(repeated(200), empty, repeated(196))
	holds(t, "just fits", insert(t, p, repeated(94), 1), repeated(200), repeated(94), repeated(196))
	noInsert(t, p, repeated(95), api.ErrFull)
	// Where there is an empty slot the further one is not asked for.
	p = pageOf(empty, repeated(494))
	holds(t, "no room", insert(t, p, "", 0), "", repeated(494))
	noInsert(t, p, "x", api.ErrFull)
}

func TestP1202AsManySlotsAsFit(t *testing.T) {
	p := page.New()
	for i := range 125 {
		p = insert(t, p, "", i)
	}
	holds(t, "125", p, make([]string, 125)...)
	noInsert(t, p, "", api.ErrFull)
	noInsert(t, p, "ab", api.ErrFull)
	holds(t, "two bytes", update(t, p, 60, "ab"), append(append(make([]string, 60), "ab"), make([]string, 64)...)...)
	noUpdate(t, p, 60, "abc", api.ErrFull)
	q := remove(t, p, 7)
	holds(t, "the first empty one", insert(t, q, "x", 7), append(append(make([]string, 7), "x"), make([]string, 117)...)...)
	noInsert(t, q, "xyz", api.ErrFull)
	for i := range 124 {
		p = remove(t, p, i)
	}
	l := append(slices.Repeat([]string{empty}, 124), "")
	holds(t, "the last one alone", p, l...)
	holds(t, "none", remove(t, p, 124))
}

func TestP1202Update(t *testing.T) {
	p := pageOf("one", empty, "two", "three")
	holds(t, "shorter", update(t, p, 0, "1"), "1", empty, "two", "three")
	holds(t, "as long", update(t, p, 2, "TWO"), "one", empty, "TWO", "three")
	holds(t, "longer", update(t, p, 2, "twenty-two"), "one", empty, "twenty-two", "three")
	holds(t, "longer", update(t, p, 3, repeated(50)), "one", empty, "two", repeated(50))
	holds(t, "the same", update(t, p, 3, "three"), "one", empty, "two", "three")
	// Room 502 - 16 - 11, and what is there goes.
	holds(t, "just fits", update(t, p, 0, repeated(478)), repeated(478), empty, "two", "three")
	noUpdate(t, p, 0, repeated(479), api.ErrFull)
	holds(t, "just fits", update(t, p, 3, repeated(480)), "one", empty, "two", repeated(480))
	noUpdate(t, p, 3, repeated(481), api.ErrFull)
	full := pageOf(repeated(498))
	holds(t, "full", update(t, full, 0, repeated(498)[1:]+"z"), repeated(498)[1:]+"z")
	noUpdate(t, full, 0, repeated(499), api.ErrFull)
	for _, n := range []int{600, 1 << 16, 1<<16 + 3, 1 << 20} {
		noUpdate(t, p, 0, repeated(n), api.ErrFull)
	}
}

func TestP1202UpdateOfNone(t *testing.T) {
	p := pageOf("one", empty, "three")
	for _, slot := range []int{least, -3, -2, -1, 1, 3, 4, 1 << 16, great} {
		noUpdate(t, p, slot, "x", api.ErrNone)
		// ErrNone is named ahead of ErrFull.
		noUpdate(t, p, slot, repeated(600), api.ErrNone)
	}
}

func TestP1202Delete(t *testing.T) {
	p := pageOf("one", "two", "three")
	holds(t, "first", remove(t, p, 0), empty, "two", "three")
	holds(t, "middle", remove(t, p, 1), "one", empty, "three")
	holds(t, "last", remove(t, p, 2), "one", "two")
	holds(t, "empty ones ahead of it", remove(t, pageOf("one", empty, empty, "x"), 3), "one")
	holds(t, "just those at the end", remove(t, pageOf(empty, "one", empty, "x"), 3), empty, "one")
	holds(t, "a record without bytes ahead", remove(t, pageOf(empty, "", empty, "x"), 3), empty, "")
	holds(t, "only one", remove(t, pageOf("x"), 0))
	holds(t, "only one, behind empty ones", remove(t, pageOf(empty, empty, "x"), 2))
	holds(t, "full", remove(t, pageOf(repeated(498)), 0))
	if !bytes.Equal(remove(t, pageOf("x"), 0), page.New()) {
		t.Error("a page whose slots are gone is not a new one")
	}
	for _, slot := range []int{least, -3, -2, -1, 3, 4, 1 << 16, great} {
		noDelete(t, p, slot, api.ErrNone)
	}
	noDelete(t, pageOf("one", empty, "three"), 1, api.ErrNone)
}

// What was put is got, till it is changed; other slots stay as they are.
func TestP1204Kept(t *testing.T) {
	p := page.New()
	var l []string
	for i := range 20 {
		l = append(l, repeated(i))
		p = insert(t, p, repeated(i), i)
	}
	for i := range l {
		for _, s := range []string{"", "x", repeated(100)} {
			changed := slices.Clone(l)
			changed[i] = s
			holds(t, "Update", update(t, p, i, s), changed...)
		}
		changed := slices.Clone(l)
		changed[i] = empty
		if i == len(l)-1 {
			changed = changed[:i]
		}
		q := remove(t, p, i)
		holds(t, "Delete", q, changed...)
		if i < len(l)-1 {
			changed[i] = "again"
		} else {
			changed = append(changed, "again")
		}
		holds(t, "Insert", insert(t, q, "again", i), changed...)
	}
	holds(t, "the page itself", p, l...)
}

// An order that the slots were filled in is not to be seen in the bytes.
func TestP1204OnlyWhatIsInTheSlots(t *testing.T) {
	p := pageOf("a", "bb", "ccc")
	q := insert(t, insert(t, remove(t, remove(t, p, 0), 1), "bb", 0), "a", 1)
	holds(t, "turned round", q, "bb", "a", "ccc")
	q = update(t, update(t, q, 1, "bb"), 0, "a")
	if !bytes.Equal(p, q) {
		t.Errorf("%x, not %x", q, p)
	}
}
