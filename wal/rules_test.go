package wal_test

import (
	"bytes"
	"slices"
	"strings"
	"sync"
	"testing"
	"unsafe"

	"longstop/api"
	"longstop/disk"
	"longstop/wal"
)

// notMade gives wals that Open did not make.
func notMade(t *testing.T) map[string]*wal.Wal {
	var zero wal.Wal
	emptied := started(t, 100, "a").w
	*emptied = wal.Wal{}
	failed, _, _ := wal.Open(nil)
	return map[string]*wal.Wal{"nil": nil, "zero": &zero, "new(Wal)": new(wal.Wal), "overwritten": emptied, "not opened": failed}
}

func TestP1501NoWal(t *testing.T) {
	for what, w := range notMade(t) {
		for _, n := range []int{0, 1, -1, 10, great, least} {
			at, e := w.Append([]byte(repeated(min(max(n, 0), 1<<20+1))))
			l, f := w.Since(n)
			for i, e := range []api.Errno{e, f, w.Sync(), w.Truncate(n), w.Retire(n)} {
				if e != api.ErrArg {
					t.Errorf("%s: call %d: error %d", what, i, e)
				}
			}
			if at != 0 || len(l) != 0 || cap(l) != 0 || w.Sure() != 0 {
				t.Errorf("%s: %d, %v, %d", what, at, l, w.Sure())
			}
		}
		if w != nil && *w != (wal.Wal{}) {
			t.Errorf("%s: it has been changed", what)
		}
	}
}

// With an error every other answer is zero.
func TestP1501ZeroWithAnError(t *testing.T) {
	p := started(t, 30, "a", "b")
	l, e := p.w.Since(1)
	if l != nil && cap(l) > 0 || e != api.ErrArg {
		t.Error(l, e)
	}
	for _, s := range []string{repeated(1<<20 + 1), repeated(20)} {
		if at, e := p.w.Append([]byte(s)); at != 0 || e == api.OK {
			t.Error(at, e)
		}
	}
	p.fuse(0)
	if at, e := p.w.Append(nil); at != 0 || e != api.ErrPower {
		t.Error(at, e)
	}
}

// roomy gives a list with three more elements behind it, and the whole.
func roomy(l []byte) (list, all []byte) {
	all = append(slices.Clone(l), 1, 2, 3)
	return all[:len(l)], all
}

func TestP1501ArgumentsStay(t *testing.T) {
	p := begin(t, 1<<22)
	for _, s := range []string{"", "a", bytesOf("a", "", "b"), bytesOf("a") + "junk", repeated(1000), repeated(1<<20 + 1)} {
		b, all := roomy([]byte(s))
		was := slices.Clone(all)
		p.w.Append(b)
		p.w.Sync()
		wal.Scan(5, b)
		if !bytes.Equal(all, was) {
			t.Fatalf("%s, or the room behind it, was changed", short(s))
		}
	}
}

// Bytes that change behind a call change nothing in the wal, nor in an answer.
func TestP1501BytesAreNotKept(t *testing.T) {
	p := begin(t, 10000)
	b := make([]byte, 1000)
	for _, s := range []string{"one", "", repeated(900), "two"} {
		copy(b, s)
		p.w.Append(b[:len(s)])
		p.x.append(s)
		clear(b)
		p.holds("Append")
	}
	p.fuse(0)
	p.each(api.ErrPower, p.sync())
	p.holds("without power")
	log := []byte(bytesOf("one", "two"))
	l, _ := wal.Scan(0, log)
	clear(log)
	isList(t, "Scan", l, notesOf(0, "one", "two"))
}

// held keeps what was handed out, so that its memory is not given out anew
// while it is asked whether somebody shares it.
var held [][]byte

// apart complains if two lists have memory in common, the room behind them
// taken in.
func apart(t *testing.T, what string, l ...[]byte) {
	t.Helper()
	held = append(held, l...)
	for i, a := range l {
		for _, b := range l[:i] {
			if cap(a) == 0 || cap(b) == 0 {
				continue
			}
			from, to := uintptr(unsafe.Pointer(unsafe.SliceData(a))), uintptr(unsafe.Pointer(unsafe.SliceData(b)))
			if from < to+uintptr(cap(b)) && to < from+uintptr(cap(a)) {
				t.Fatalf("%s: memory is shared", what)
			}
		}
	}
}

func bytesIn(lists ...[]wal.Entry) [][]byte {
	var l [][]byte
	for _, some := range lists {
		for _, x := range some {
			l = append(l, x.B)
		}
	}
	return l
}

func TestP1501NewMemory(t *testing.T) {
	for _, n := range []int{1, 8, 100, 5000} {
		p := begin(t, 100000)
		given := []byte(repeated(n))
		for range 3 {
			p.w.Append(given)
		}
		log, _ := p.d.Read(0)
		a, _ := p.w.Since(0)
		b, _ := p.w.Since(0)
		c, _ := p.w.Since(sizeOf(repeated(n)))
		_, x, _ := wal.Open(p.d)
		_, y, _ := wal.Open(p.d)
		s, _ := wal.Scan(0, log)
		u, _ := wal.Scan(0, log)
		apart(t, "answers", append(bytesIn(a, b, c, x, y, s, u), given, log)...)
	}
}

// spoilAll overwrites entries, their bytes, and the room behind both.
func spoilAll(l []wal.Entry) {
	for _, x := range l[:cap(l)] {
		for i := range x.B[:cap(x.B)] {
			x.B[:cap(x.B)][i] = '!'
		}
	}
	for i := range l[:cap(l)] {
		l[:cap(l)][i] = wal.Entry{At: -7}
	}
}

// What is done to an answer is not seen in the wal, on the disk, or in another
// answer; nor is what is done to the wal seen in an answer.
func TestP1501AnswersAreNew(t *testing.T) {
	p := started(t, 10000, "one", "", repeated(300), "two")
	want := slices.Clone(p.x.notes)
	for range 2 {
		first, _ := p.w.Since(0)
		second, _ := p.w.Since(0)
		spoilAll(first)
		p.holds("Since")
		isList(t, "another answer", second, want)
		w, opened, _ := wal.Open(p.d)
		p.x.open()
		p.w = w
		spoilAll(opened)
		p.holds("Open")
		isList(t, "another answer", second, want)
	}
	kept, _ := p.w.Since(0)
	p.all(p.truncate(12), p.append("xyz"), p.append(repeated(400)))
	isList(t, "an answer behind Truncate", kept, want)
	p.all(p.retire(12), p.append("uvw"))
	p.crash(3, true)
	isList(t, "an answer behind a crash", kept, want)
	p.all(p.open())
	p.fuse(0)
	p.each(api.ErrPower, p.sync())
	l, _ := p.w.Since(p.d.Base())
	spoilAll(l)
	p.holds("without power")
}

func TestP1501NilAndEmpty(t *testing.T) {
	p := begin(t, 100)
	for i, b := range [][]byte{nil, {}, make([]byte, 0, 5)} {
		if at, e := p.w.Append(b); at != 9*i || e != api.OK {
			t.Error(at, e)
		}
		if l, end := wal.Scan(4, b); len(l) != 0 || end != 4 {
			t.Error(l, end)
		}
	}
	isLog(t, p.w, p.d, 0, "", "", "")
}

// Two disks, by turns, do not know of each other's wals.
func TestP1501TwoWals(t *testing.T) {
	a, b := begin(t, 100), begin(t, 100)
	a.all(a.append("a"), a.sync())
	b.holds("the other one")
	b.all(b.append("bcd"), b.append("e"))
	a.holds("the other one")
	a.fuse(0)
	a.each(api.ErrPower, a.append("x"))
	b.all(b.truncate(12))
	a.holds("the other one")
	b.has(0, "bcd")
}

// A wal works with the disk that it was handed, not with a copy of it.
func TestP1501TheDisksOwn(t *testing.T) {
	d := newDisk(t, 100)
	w, _, _ := wal.Open(d)
	w.Append([]byte("a"))
	if d.End() != 10 {
		t.Error(d.End())
	}
	w.Sync()
	d.Crash(0, true, nil)
	opens(t, d, 0, "a")
}

// The same calls tell the same.
func TestP1501TheSameAgain(t *testing.T) {
	build := func() string {
		p := started(t, 1000, "one", "", "two")
		p.all(p.sync(), p.truncate(12), p.append("three"))
		p.crash(5, true)
		p.all(p.open(), p.append("four"), p.retire(12))
		l, _ := p.w.Since(12)
		return short(l)
	}
	first := build()
	for range 3 {
		if build() != first {
			t.Fatal("another log")
		}
	}
}

// Wals of their own may be worked with, and one may be looked at, by several at
// once, also where the disk was changed beneath it.
func TestP1501SeveralAtOnce(t *testing.T) {
	one := started(t, 1000, "abc", "d")
	one.d.Append([]byte(recordOf("e")))
	wrong := make([]int, 8)
	var wait sync.WaitGroup
	for i := range wrong {
		wait.Add(1)
		go func() {
			defer wait.Done()
			d, _ := disk.New(10000, 0)
			own, _, _ := wal.Open(d)
			for range 30 {
				l, _ := one.w.Since(12)
				for _, x := range l {
					own.Append(x.B)
				}
			}
			l, e := own.Since(0)
			if len(l) != 60 || e != api.OK || string(l[59].B) != "e" || one.w.Sure() != 0 {
				wrong[i]++
			}
		}()
	}
	wait.Wait()
	if slices.Max(wrong) > 0 {
		t.Error(wrong)
	}
}

// Every call ends, whatever it is given.
func TestP1501WhateverComes(t *testing.T) {
	d := newDisk(t, 1<<24)
	w := opens(t, d, 0)
	most := []byte(repeated(1 << 20))
	for range 15 {
		if _, e := w.Append(most); e != api.OK {
			t.Fatal(e)
		}
	}
	if _, e := w.Append(most[1<<10:]); e != api.OK {
		t.Error(e)
	}
	if _, e := w.Append(most); e != api.ErrFull {
		t.Error(e)
	}
	if l, e := w.Since(0); len(l) != 16 || e != api.OK {
		t.Error(len(l), e)
	}
	zeros := make([]byte, 1<<22)
	l, end := wal.Scan(0, zeros)
	if len(l) != 1<<22/9 || end != 1<<22/9*9 {
		t.Error(len(l), end)
	}
	if l, end := wal.Scan(great, []byte(strings.Repeat("\xff", 1<<20))); len(l) != 0 || end != great {
		t.Error(len(l), end)
	}
}

// Many records, and many steps at a long log, end soon.
func TestP1501ManySteps(t *testing.T) {
	p := begin(t, 1<<24)
	for i := range 100000 {
		if at, e := p.w.Append([]byte("abc")); at != 12*i || e != api.OK {
			t.Fatal(i, at, e)
		}
		if i%10 == 0 {
			p.w.Sync()
		}
	}
	for i := range 1000 {
		if p.w.Truncate(12*(100000-i)) != api.OK || p.w.Retire(12*i) != api.OK {
			t.Fatal(i)
		}
		if l, e := p.w.Since(12 * (99990 - i)); len(l) != 10 || e != api.OK {
			t.Fatal(len(l), e)
		}
	}
	if _, l, e := wal.Open(p.d); len(l) != 99001-999 || e != api.OK {
		t.Error(len(l), e)
	}
}
