package page_test

import (
	"bytes"
	"reflect"
	"slices"
	"strings"
	"sync"
	"testing"
	"unsafe"

	"longstop/api"
	"longstop/page"
)

// span: where something lies in memory.
type span struct{ from, to uintptr }

// spans gives where the lists in x lie, with the room behind them, and where
// its texts lie.
func spans(l ...any) []span {
	var out []span
	add := func(from, size uintptr) {
		if size > 0 {
			out = append(out, span{from, from + size})
		}
	}
	var walk func(v reflect.Value)
	walk = func(v reflect.Value) {
		switch v.Kind() {
		case reflect.Struct:
			for i := range v.NumField() {
				walk(v.Field(i))
			}
		case reflect.Slice:
			add(v.Pointer(), uintptr(v.Cap())*v.Type().Elem().Size())
			if v.Type().Elem().Kind() == reflect.Uint8 {
				return
			}
			for i := range v.Len() {
				walk(v.Index(i))
			}
		case reflect.String:
			// Texts of one byte stand in a table of the language's own.
			if s := v.String(); len(s) > 1 {
				add(uintptr(unsafe.Pointer(unsafe.StringData(s))), uintptr(len(s)))
			}
		}
	}
	for _, x := range l {
		walk(reflect.ValueOf(x))
	}
	return out
}

// apart complains if one of a has memory in common with one of b.
func apart(t *testing.T, what string, a, b []span) {
	t.Helper()
	for _, x := range a {
		for _, y := range b {
			if x.from < y.to && y.from < x.to {
				t.Fatalf("%s: memory is shared", what)
			}
		}
	}
}

// eachApart complains if two parts of one answer have memory in common.
func eachApart(t *testing.T, what string, answer any) {
	t.Helper()
	l := spans(answer)
	for i := range l {
		apart(t, what, l[:i], l[i:i+1])
	}
}

// answersApart asks a call twice: its answers share nothing with what was
// handed in, nor with one another, nor do their parts.
func answersApart[T any](t *testing.T, what string, handed []span, call func() T) {
	t.Helper()
	a, b := call(), call()
	if len(spans(a)) == 0 {
		t.Fatalf("%s: nothing was answered", what)
	}
	apart(t, what, spans(a), handed)
	apart(t, what, spans(b), handed)
	apart(t, what, spans(a), spans(b))
	eachApart(t, what, a)
	hold(a, b)
}

// hold keeps what was handed out, so that its memory is not given out anew
// while it is asked whether somebody shares it.
func hold(l ...any) { held = append(held, l...) }

var held []any

func TestP1201NewMemory(t *testing.T) {
	answersApart(t, "New", nil, page.New)
	for _, l := range [][]string{{"one"}, {"one", "two", empty, "three"}, {repeated(300), empty, repeated(100)}} {
		p, r := pageOf(l...), []byte("new")
		handed := spans(p, r)
		for slot := range l {
			if l[slot] != empty {
				answersApart(t, "Get", handed, func() []byte { b, _ := page.Get(p, slot); return b })
				answersApart(t, "Update", handed, func() []byte { b, _ := page.Update(p, slot, r); return b })
				answersApart(t, "Delete", handed, func() []byte { b, _ := page.Delete(p, slot); return b })
				same, _ := page.Get(p, slot)
				answersApart(t, "Update to the same", spans(p, same), func() []byte { b, _ := page.Update(p, slot, same); return b })
			}
		}
		answersApart(t, "Insert", handed, func() []byte { b, _, _ := page.Insert(p, r); return b })
	}
	rows := [][]Value{row(text("some text"), text("some text"), whole(7)), row(text("further text")), rowOf(400), rowOf(498), nil}
	for i := range rows {
		for j := range rows[i] {
			rows[i][j].B = strings.Clone(rows[i][j].B)
		}
	}
	answersApart(t, "Pack", spans(rows), func() [][]byte { l, _ := page.Pack(rows); return l })
	pages := packed(t, rows...)
	answersApart(t, "Unpack", spans(pages), func() [][]Value { l, _ := page.Unpack(pages); return l })
	// One page twice makes rows twice.
	twice := [][]byte{pages[0], pages[0]}
	answersApart(t, "Unpack of a page twice", spans(pages), func() [][]Value { l, _ := page.Unpack(twice); return l })
	same := [][]Value{rows[0], rows[0], rows[0]}
	answersApart(t, "Pack of a row twice", spans(rows), func() [][]byte { l, _ := page.Pack(same); return l })
}

// Who changes what he was answered changes no later answer.
func TestP1201AnswersAreNotKept(t *testing.T) {
	p := page.New()
	for i := range p {
		p[i] = 0xff
	}
	holds(t, "New", page.New())
	p = pageOf("one", "two")
	r, _ := page.Get(p, 0)
	copy(r, "xyz")
	_ = append(r, "and more"...)
	holds(t, "Get", p, "one", "two")
	given := []byte("three")
	q, _, _ := page.Insert(p, given)
	copy(given, "xxxxx")
	holds(t, "Insert", q, "one", "two", "three")
	q, _ = page.Update(p, 0, given)
	copy(given, "yyyyy")
	holds(t, "Update", q, "xxxxx", "two")
}

// roomy gives a list with three more elements behind it, and the whole.
func roomy[T any](l []T) (list, all []T) {
	all = append(slices.Clone(l), make([]T, 3)...)
	return all[:len(l)], all
}

func TestP1201ArgumentsStay(t *testing.T) {
	for _, l := range somePages() {
		for _, r := range []string{"", "abc", repeated(600)} {
			p, allP := roomy(pageOf(l...))
			b, allB := roomy([]byte(r))
			wasP, wasB := slices.Clone(allP), slices.Clone(allB)
			page.Right(p)
			page.Slots(p)
			page.Room(p)
			page.Insert(p, b)
			for slot := -1; slot <= len(l); slot++ {
				page.Get(p, slot)
				page.Update(p, slot, b)
				page.Delete(p, slot)
			}
			page.Unpack([][]byte{p})
			// And where it is no page.
			page.Insert(b, p)
			page.Update(b, 0, p)
			if !bytes.Equal(allP, wasP) || !bytes.Equal(allB, wasB) {
				t.Fatalf("%q: an argument, or the room behind it, was changed", l)
			}
		}
	}
}

func TestP1201RowsStay(t *testing.T) {
	for _, wrong := range [][]Value{nil, rowOf(499), row(truth(2)), make([]Value, 65)} {
		var rows, was, alls [][]Value
		for _, r := range [][]Value{row(text("abc"), whole(1)), rowOf(300), nil, allKinds(), wrong} {
			l, all := roomy(r)
			rows, alls, was = append(rows, l), append(alls, all), append(was, slices.Clone(all))
		}
		list, all := roomy(rows)
		pages, e := page.Pack(list)
		if !sameRows(alls, was) || !sameRows(list, rows) || !sameRows(all[len(list):], make([][]Value, 3)) {
			t.Fatal("rows, or the room behind them, were changed")
		}
		if e == api.OK {
			list, all := roomy(pages)
			wasPages := make([][]byte, len(list))
			for i, p := range list {
				wasPages[i] = slices.Clone(p)
			}
			page.Unpack(list)
			if !slices.EqualFunc(list, wasPages, bytes.Equal) || !slices.EqualFunc(all[len(list):], make([][]byte, 3), bytes.Equal) {
				t.Fatal("pages were changed")
			}
		}
	}
}

// A record may be a piece of the page itself.
func TestP1201APieceOfThePage(t *testing.T) {
	p := pageOf("one", "two", "three")
	q, slot, e := page.Insert(p, p[496:504])
	if slot != 3 || e != api.OK {
		t.Fatal(slot, e)
	}
	holds(t, "Insert", q, "one", "two", "three", "eetwoone")
	q, e = page.Update(p, 0, p[493:504])
	if e != api.OK {
		t.Fatal(e)
	}
	holds(t, "Update", q, "threetwoone", "two", "three")
	holds(t, "the page", p, "one", "two", "three")
	noInsert(t, p, string(p), api.ErrFull)
	// Its room behind is the rest of the page.
	noInsert(t, p[:504], "x", api.ErrForm)
}

// Only the bytes count, not where they lie, nor what is behind them.
func TestP1201NothingElseCounts(t *testing.T) {
	p := pageOf("one", empty, "three")
	long := slices.Concat([]byte("ahead"), p, []byte("behind"))
	holds(t, "within", long[5:517], "one", empty, "three")
	holds(t, "Insert", insert(t, long[5:517], "two", 1), "one", "two", "three")
	holds(t, "Delete", remove(t, long[5:517], 2), "one")
	if !bytes.Equal(long, slices.Concat([]byte("ahead"), p, []byte("behind"))) {
		t.Error("the bytes round it were changed")
	}
}

// Nil and empty lists mean the same.
func TestP1201NilAndEmpty(t *testing.T) {
	p := pageOf("one", empty, "three")
	a, _, e := page.Insert(p, nil)
	b, _, f := page.Insert(p, []byte{})
	if e != f || !bytes.Equal(a, b) {
		t.Error(e, f)
	}
	a, e = page.Update(p, 0, nil)
	b, f = page.Update(p, 0, []byte{})
	if e != f || !bytes.Equal(a, b) {
		t.Error(e, f)
	}
	x, y := packed(t, [][]Value{nil, row(whole(1)), nil}...), packed(t, [][]Value{{}, row(whole(1)), {}}...)
	if !slices.EqualFunc(x, y, bytes.Equal) {
		t.Error("Pack")
	}
	noUnpack(t, "nil", nil)
	noUnpack(t, "empty", []byte{})
}

// All are pure functions: whatever was called before, the answer is the same.
func TestP1201AtTheSameTime(t *testing.T) {
	rows := slices.Repeat([][]Value{allKinds(), rowOf(100), nil}, 50)
	want := packed(t, rows...)
	var wait sync.WaitGroup
	wrong := make([]int, 8)
	for i := range wrong {
		wait.Add(1)
		go func() {
			defer wait.Done()
			for range 20 {
				l, e := page.Pack(rows)
				back, f := page.Unpack(l)
				if e != api.OK || f != api.OK || !slices.EqualFunc(l, want, bytes.Equal) || !sameRows(back, rows) {
					wrong[i]++
				}
				for _, p := range want {
					page.Insert(p, []byte("x"))
					page.Update(p, 0, nil)
					page.Delete(p, 0)
				}
			}
		}()
	}
	wait.Wait()
	if slices.Max(wrong) > 0 {
		t.Error(wrong)
	}
}

// Every call ends, whatever it is given.
func TestP1201WhateverComes(t *testing.T) {
	great := bytes.Repeat([]byte{0xff}, 1<<24)
	isNone(t, "great", great)
	noInsert(t, page.New(), string(great), api.ErrFull)
	noUpdate(t, pageOf("x"), 0, string(great), api.ErrFull)
	noUpdate(t, pageOf("x"), 1, string(great), api.ErrNone)
	noUnpack(t, "many", make([][]byte, 1<<20)...)
	noPack(t, "many", api.ErrArg, append(make([][]Value, 1<<18), row(truth(2)))...)
	noPack(t, "many", api.ErrSize, append(make([][]Value, 1<<18), rowOf(499))...)
	noPack(t, "a great row", api.ErrArg, make([]Value, 1<<20))
	rows := make([][]Value, 1<<18)
	pages := packed(t, rows...)
	if len(pages) != (1<<18+99)/100 {
		t.Error(len(pages))
	}
	if back := unpacked(t, pages...); !sameRows(back, rows) {
		t.Error(len(back))
	}
}
