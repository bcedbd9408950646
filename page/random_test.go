package page_test

import (
	"bytes"
	"math/rand"
	"slices"
	"testing"

	"longstop/api"
	"longstop/page"
)

func randomBytes(r *rand.Rand, n int) string {
	b := make([]byte, n)
	if r.Intn(3) > 0 {
		r.Read(b)
	}
	return string(b)
}

// randomRecord gives one that is often just as long as the room, or a byte
// longer or shorter.
func randomRecord(r *rand.Rand, room int) string {
	switch r.Intn(6) {
	case 0:
		return randomBytes(r, max(0, room+pick(r, -5, -4, -3, -1, 0, 1, 2)))
	case 1:
		return ""
	case 2:
		return randomBytes(r, r.Intn(600))
	}
	return randomBytes(r, r.Intn(40))
}

// step does one call to p, whose slots are l, and holds it against the teller.
func step(t *testing.T, r *rand.Rand, p []byte, l []string) ([]byte, []string) {
	t.Helper()
	slot := r.Intn(len(l)+3) - 1
	var next []byte
	var want []string
	var e, f api.Errno
	switch r.Intn(5) {
	case 0, 1:
		rec := randomRecord(r, roomOf(l))
		var at, to int
		next, at, e = page.Insert(p, []byte(rec))
		want, to, f = toldInsert(l, rec)
		if at != to {
			t.Fatalf("Insert into %q: slot %d, not %d", l, at, to)
		}
	case 2, 3:
		room := roomOf(l)
		if isTaken(l, slot) {
			room += len(l[slot])
		}
		rec := randomRecord(r, room)
		next, e = page.Update(p, slot, []byte(rec))
		want, f = toldUpdate(l, slot, rec)
	default:
		next, e = page.Delete(p, slot)
		want, f = toldDelete(l, slot)
	}
	if e != f {
		t.Fatalf("%q: error %d, not %d", l, e, f)
	}
	if e != api.OK {
		if len(next) != 0 {
			t.Fatalf("%q: a page beside an error", l)
		}
		return p, l
	}
	holds(t, "a step", next, want...)
	return next, want
}

func TestP1204RandomSteps(t *testing.T) {
	r := rand.New(rand.NewSource(12))
	for range 60 {
		p, l := page.New(), []string(nil)
		for range 150 {
			p, l = step(t, r, p, l)
		}
	}
}

// randomSlots gives what fits into a page.
func randomSlots(r *rand.Rand) []string {
	var l []string
	for range r.Intn(pick(r, 3, 10, 126)) {
		s := empty
		if r.Intn(4) > 0 {
			s = randomBytes(r, r.Intn(pick(r, 1, 3, 20, 300)))
		}
		if roomOf(append(l, s)) < 0 {
			break
		}
		l = append(l, s)
	}
	for len(l) > 0 && l[len(l)-1] == empty {
		l = l[:len(l)-1]
	}
	return l
}

// spoiled gives a page in which some bytes or numbers are others; its sum is
// often right.
func spoiled(r *rand.Rand, l []string) []byte {
	p := pageOf(l...)
	for range 1 + r.Intn(3) {
		slot := 2 + 4*r.Intn(len(l)+2)
		at := min(pick(r, 0, slot, slot+2), 502)
		n := int(p[at])<<8 | int(p[at+1])
		switch r.Intn(5) {
		case 0:
			copy(p[at:], number(n+pick(r, -4, -1, 1, 4)))
		case 1:
			copy(p[at:], number(pick(r, 0, 1, 6, 503, 504, 505, 65535)))
		case 2:
			p[r.Intn(504)] ^= byte(1 << r.Intn(8))
		case 3:
			other := min(2+4*r.Intn(len(l)+1), 500)
			copy(p[min(slot, 500):504], p[other:other+4])
		case 4:
			copy(p[:], number(len(l)+pick(r, -1, 1, 2, 256)))
		}
	}
	if r.Intn(6) > 0 {
		p = sealed(p)
	}
	return p
}

func TestP1201RandomForms(t *testing.T) {
	r := rand.New(rand.NewSource(1201))
	right, wrong := 0, 0
	for range 20000 {
		p := spoiled(r, randomSlots(r))
		l, ok := toldPage(p)
		if !ok {
			wrong++
			if page.Right(p) {
				t.Fatalf("%x is no page", p)
			}
			if wrong%20 == 0 {
				isNone(t, "spoiled", p)
			}
			continue
		}
		right++
		holds(t, "spoiled", p, l...)
	}
	if right < 500 || wrong < 5000 {
		t.Error(right, wrong)
	}
}

func TestP1206RandomBytes(t *testing.T) {
	r := rand.New(rand.NewSource(1206))
	for range 5000 {
		p := pageOf(randomSlots(r)...)
		p[r.Intn(512)] ^= byte(1 + r.Intn(255))
		if page.Right(p) {
			t.Fatalf("%x is no page", p)
		}
	}
}

func randomValue(r *rand.Rand) Value {
	switch r.Intn(6) {
	case 0:
		return whole(pick(r, 0, 1, -1, least, great, r.Intn(1000)))
	case 1:
		return dec(r.Int()-r.Int(), r.Intn(7))
	case 2:
		return text(repeated(r.Intn(pick(r, 1, 10, 257))))
	case 3:
		return truth(r.Intn(2))
	case 4:
		return point(r.Intn(2*api.MaxPoint+1)-api.MaxPoint, r.Intn(9))
	}
	return Value{}
}

func TestP1205RandomRows(t *testing.T) {
	r := rand.New(rand.NewSource(1205))
	for range 300 {
		var rows [][]Value
		var records []string
		for range r.Intn(pick(r, 2, 40, 300)) {
			var l []Value
			for range r.Intn(pick(r, 1, 4, 17, 65)) {
				if s := append(slices.Clone(l), randomValue(r)); len(put(s...)) <= 498 {
					l = s
				}
			}
			rows = append(rows, l)
			records = append(records, put(l...))
		}
		pages := packed(t, rows...)
		told := toldPack(records)
		layout(t, "random rows", pages, told...)
		if got := unpacked(t, pages...); !sameRows(got, rows) {
			t.Fatalf("%s, not %s", short(got), short(rows))
		}
		if len(pages) > 0 {
			p := slices.Clone(pages[r.Intn(len(pages))])
			p[r.Intn(512)]++
			at := r.Intn(len(pages) + 1)
			noUnpack(t, "a page that is none", slices.Insert(slices.Clone(pages), at, p)...)
		}
	}
}

func TestP1203RandomPages(t *testing.T) {
	r := rand.New(rand.NewSource(1203))
	var small [][]Value
	for range 50 {
		small = append(small, row(randomValue(r)))
	}
	for range 500 {
		var pages [][]byte
		var want [][]Value
		for range r.Intn(5) {
			var l []string
			for range r.Intn(20) {
				x := pick(r, small...)
				s := pick(r, empty, put(x...))
				if roomOf(append(l, s, "\x00")) < 0 {
					break
				}
				if l = append(l, s); s != empty {
					want = append(want, x)
				}
			}
			l = append(l, "\x00")
			want = append(want, nil)
			if roomOf(l) < 0 {
				panic("no page")
			}
			pages = append(pages, pageOf(l...))
		}
		if got := unpacked(t, pages...); !sameRows(got, want) {
			t.Fatalf("%s, not %s", short(got), short(want))
		}
		again := packed(t, want...)
		if back := unpacked(t, again...); !sameRows(back, want) {
			t.Fatal("not the rows")
		}
		for _, p := range again {
			if !bytes.Equal(sealed(p), p) {
				t.Fatal("another sum")
			}
		}
	}
}
