package page_test

import (
	"bytes"
	"fmt"
	"math"
	"math/rand"
	"slices"
	"strings"
	"testing"

	"longstop/api"
	"longstop/datum"
	"longstop/page"
)

type Value = api.Value

const (
	least = math.MinInt
	great = math.MaxInt
)

// empty stands for an empty slot where slots are told as texts; "" is a record
// without bytes.
const empty = "(an empty slot)"

func whole(n int) Value { return Value{Kind: api.Int, N: n} }

func dec(units, scale int) Value { return Value{Kind: api.Dec, N: units, M: scale} }

func text(s string) Value { return Value{Kind: api.Text, B: s} }

func truth(n int) Value { return Value{Kind: api.Bool, N: n} }

func point(x, y int) Value { return Value{Kind: api.Point, N: x, M: y} }

func row(l ...Value) []Value { return l }

func pick[T any](r *rand.Rand, l ...T) T { return l[r.Intn(len(l))] }

// repeated gives a text of n bytes, none of them zero.
func repeated(n int) string {
	return strings.Repeat("abcdefghijklm", n/13+1)[:n]
}

// short tells x in a line that can be read.
func short(x any) string {
	s := fmt.Sprintf("%+v", x)
	return s[:min(len(s), 400)]
}

// slotsOf tells of a page's slots by Slots and Get.
func slotsOf(p []byte) []string {
	var l []string
	for i := range page.Slots(p) {
		r, ok := page.Get(p, i)
		if ok {
			l = append(l, string(r))
		} else {
			l = append(l, empty)
		}
	}
	return l
}

// holds complains unless p is, byte by byte, the page of these slots.
func holds(t *testing.T, what string, p []byte, l ...string) {
	t.Helper()
	if want := pageOf(l...); !bytes.Equal(p, want) {
		t.Fatalf("%s: slots %q, bytes %x, not %x", what, slotsOf(p), p, want)
	}
	if !page.Right(p) || page.Slots(p) != len(l) || page.Room(p) != roomOf(l) {
		t.Fatalf("%s: Right %v, Slots %d, Room %d", what, page.Right(p), page.Slots(p), page.Room(p))
	}
	if !slices.Equal(slotsOf(p), l) {
		t.Fatalf("%s: slots %q, not %q", what, slotsOf(p), l)
	}
}

func insert(t *testing.T, p []byte, r string, want int) []byte {
	t.Helper()
	next, slot, e := page.Insert(p, []byte(r))
	if e != api.OK || slot != want {
		t.Fatalf("Insert of %d bytes into %q: slot %d, error %d", len(r), slotsOf(p), slot, e)
	}
	return next
}

func update(t *testing.T, p []byte, slot int, r string) []byte {
	t.Helper()
	next, e := page.Update(p, slot, []byte(r))
	if e != api.OK {
		t.Fatalf("Update of slot %d of %q: error %d", slot, slotsOf(p), e)
	}
	return next
}

func remove(t *testing.T, p []byte, slot int) []byte {
	t.Helper()
	next, e := page.Delete(p, slot)
	if e != api.OK {
		t.Fatalf("Delete of slot %d of %q: error %d", slot, slotsOf(p), e)
	}
	return next
}

func noInsert(t *testing.T, p []byte, r string, want api.Errno) {
	t.Helper()
	next, slot, e := page.Insert(p, []byte(r))
	if e != want || slot != 0 || len(next) != 0 {
		t.Errorf("Insert of %d bytes into %q: %d bytes, slot %d, error %d, not %d", len(r), short(slotsOf(p)), len(next), slot, e, want)
	}
}

func noUpdate(t *testing.T, p []byte, slot int, r string, want api.Errno) {
	t.Helper()
	next, e := page.Update(p, slot, []byte(r))
	if e != want || len(next) != 0 {
		t.Errorf("Update of slot %d of %q with %d bytes: %d bytes, error %d, not %d", slot, short(slotsOf(p)), len(r), len(next), e, want)
	}
}

func noDelete(t *testing.T, p []byte, slot int, want api.Errno) {
	t.Helper()
	next, e := page.Delete(p, slot)
	if e != want || len(next) != 0 {
		t.Errorf("Delete of slot %d of %q: %d bytes, error %d, not %d", slot, short(slotsOf(p)), len(next), e, want)
	}
}

func noGet(t *testing.T, p []byte, slot int) {
	t.Helper()
	r, ok := page.Get(p, slot)
	if ok || len(r) != 0 {
		t.Errorf("Get of slot %d of %q: %q, %v", slot, short(slotsOf(p)), r, ok)
	}
}

func noUnpack(t *testing.T, what string, pages ...[]byte) {
	t.Helper()
	rows, e := page.Unpack(pages)
	if e != api.ErrForm || len(rows) != 0 {
		t.Errorf("%s: Unpack: %s, error %d", what, short(rows), e)
	}
}

// isNone complains if a call answers anything of p but that it is no page.
func isNone(t *testing.T, what string, p []byte) {
	t.Helper()
	if page.Right(p) || page.Slots(p) != 0 || page.Room(p) != 0 {
		t.Fatalf("%s: Right %v, Slots %d, Room %d", what, page.Right(p), page.Slots(p), page.Room(p))
	}
	for _, slot := range []int{least, -1, 0, 1, 2, great} {
		noGet(t, p, slot)
		noDelete(t, p, slot, api.ErrForm)
		for _, r := range []string{"", "a", repeated(600)} {
			noUpdate(t, p, slot, r, api.ErrForm)
			noInsert(t, p, r, api.ErrForm)
		}
	}
	noUnpack(t, what, p)
	noUnpack(t, what, page.New(), p, page.New())
	if t.Failed() {
		t.Fatalf("%s: %x", what, p)
	}
}

// rowOf gives a row whose bytes are n of them, n from 3 on but 4: its number
// of values, then Texts of three further bytes, or two if they are short.
func rowOf(n int) []Value {
	var l []Value
	for left := n - 1; left > 0; {
		size := min(left, 200)
		if rest := left - size; rest == 1 {
			size -= 2
		}
		head := 3
		if size < 66 {
			head = 2
		}
		if size < head {
			panic("no such row")
		}
		l = append(l, text(repeated(size-head)))
		left -= size
	}
	if b, e := datum.Put(l...); e != api.OK || len(b) != n {
		panic(fmt.Sprint("a row of ", len(b), " bytes, not of ", n))
	}
	return l
}

func put(l ...Value) string {
	b, e := datum.Put(l...)
	if e != api.OK {
		panic("that row may not be")
	}
	return string(b)
}

// sameRows tells whether they are in nothing unlike.
func sameRows(a, b [][]Value) bool {
	return slices.EqualFunc(a, b, func(x, y []Value) bool { return slices.Equal(x, y) })
}

func packed(t *testing.T, rows ...[]Value) [][]byte {
	t.Helper()
	l, e := page.Pack(rows)
	if e != api.OK {
		t.Fatalf("Pack of %s: error %d", short(rows), e)
	}
	return l
}

func unpacked(t *testing.T, pages ...[]byte) [][]Value {
	t.Helper()
	l, e := page.Unpack(pages)
	if e != api.OK {
		t.Fatalf("Unpack of %d pages: error %d", len(pages), e)
	}
	return l
}

func noPack(t *testing.T, what string, want api.Errno, rows ...[]Value) {
	t.Helper()
	l, e := page.Pack(rows)
	if e != want || len(l) != 0 {
		t.Errorf("%s: Pack: %d pages, error %d, not %d", what, len(l), e, want)
	}
}
