package disk_test

import (
	"bytes"
	"slices"
	"sync"
	"testing"
	"unsafe"

	"longstop/api"
	"longstop/disk"
)

// notMade gives disks that New did not make.
func notMade() map[string]*disk.Disk {
	var zero disk.Disk
	emptied, _ := disk.New(10, 2)
	emptied.Append([]byte("a"))
	emptied.Fuse(0)
	emptied.Sync()
	*emptied = disk.Disk{}
	return map[string]*disk.Disk{"nil": nil, "zero": &zero, "new(Disk)": new(disk.Disk), "overwritten": emptied}
}

func TestP1401NoDisk(t *testing.T) {
	for what, d := range notMade() {
		for range 2 {
			isNone(t, what, d)
			d.Fuse(0)
			isNone(t, what, d)
			d.Fuse(-1)
			d.Crash(1, true, []int{1})
			d.Crash(great, false, nil)
			d.Fuse(1)
		}
		isNone(t, what, d)
		if d != nil && *d != (disk.Disk{}) {
			t.Errorf("%s: it has been changed", what)
		}
	}
}

// isNone asks all that answers anything.
func isNone(t *testing.T, what string, d *disk.Disk) {
	t.Helper()
	for _, n := range []int{0, 1, -1, 511, 512, great, least} {
		at, e := d.Append(make([]byte, min(max(n, 0), 512)))
		b, f := d.Read(n)
		p, g := d.Load(n)
		if at != 0 || len(b) != 0 || cap(b) != 0 || len(p) != 0 || cap(p) != 0 {
			t.Errorf("%s: %d, %q, %q", what, at, b, p)
		}
		h := d.Write(n, make([]byte, 512))
		for i, e := range []api.Errno{e, f, g, h, d.Sync(), d.Cut(n), d.Retire(n)} {
			if e != api.ErrArg {
				t.Errorf("%s: call %d: error %d", what, i, e)
			}
		}
		if d.Base() != 0 || d.End() != 0 || d.Down() {
			t.Errorf("%s: %d, %d, %v", what, d.Base(), d.End(), d.Down())
		}
	}
}

// mixedStep does the i-th of a row of calls, as it is for this seed.
func mixedStep(p pair, i, seed int) {
	p.t.Helper()
	switch n := (i*7 + seed*3) % 11; n {
	case 0, 1, 2:
		p.append(repeated(i%5 + seed))
	case 3, 4:
		p.write(i%3, pageOf(string(rune('a'+(i+seed)%26))))
	case 5:
		p.sync()
	case 6:
		p.cut(max(p.x.base, p.x.end()-2))
	case 7:
		p.retire(min(p.x.end(), p.x.base+3))
	case 8:
		p.fuse(4)
	default:
		p.crash(seed+i%4, i%2 == 0, i%3, seed, 2)
	}
	p.holds("a step")
}

// Two disks, by turns, do not know of each other.
func TestP1401TwoDisks(t *testing.T) {
	a, b := begin(t, 40, 3), begin(t, 40, 3)
	if a.d == b.d {
		t.Fatal("one disk")
	}
	a.append("a")
	a.write(0, pageOf("a"))
	a.fuse(0)
	a.sync()
	b.holds("the other one")
	a.crash(1, false, 1)
	b.holds("the other one")
	a.has("a", "a")
	for i := range 400 {
		mixedStep(a, i, 1)
		b.holds("the other one")
		mixedStep(b, i, 4)
		a.holds("the other one")
	}
}

// roomy gives a list with three more elements behind it, and the whole.
func roomy[T any](l []T) (list, all []T) {
	all = append(slices.Clone(l), make([]T, 3)...)
	return all[:len(l)], all
}

func TestP1401ArgumentsStay(t *testing.T) {
	d, _ := disk.New(4000, 3)
	for range 3 {
		for _, n := range []int{0, 1, 3, 511, 512, 513, 5000} {
			b, all := roomy([]byte(repeated(n)))
			was := slices.Clone(all)
			d.Append(b)
			d.Write(1, b)
			d.Write(2, b)
			if !bytes.Equal(all, was) {
				t.Fatalf("%d bytes, or the room behind them, were changed", n)
			}
		}
		fates, all := roomy([]int{5, -4})
		was := slices.Clone(all)
		d.Crash(7, true, fates)
		d.Append([]byte("more"))
		d.Crash(4, true, fates)
		if !slices.Equal(all, was) {
			t.Fatalf("fates were changed to %d", all)
		}
	}
}

// Bytes that change behind a call change nothing on the disk.
func TestP1401BytesAreNotKept(t *testing.T) {
	p := begin(t, 4000, 3)
	for i, n := range []int{1, 3, 512, 600, 2000} {
		b, s := []byte(repeated(n)), repeated(n)
		p.d.Append(b)
		p.x.append(s)
		clear(b)
		p.holds("Append")
		w := []byte(pageOf(s))
		p.d.Write(i%3, w)
		p.x.write(i%3, pageOf(s))
		clear(w)
		p.holds("Write")
		p.crash(great, false, 1, 1, 1)
	}
	// One list, filled anew for each call.
	b := make([]byte, 512)
	for i := range 3 {
		s := pageOf(string(rune('a' + i)))
		copy(b, s)
		p.d.Append(b[:10])
		p.d.Write(i, b)
		p.x.append(s[:10])
		p.x.write(i, s)
	}
	p.sync()
	clear(b)
	p.holds("filled anew")
	fates := []int{1, 1, 1}
	p.write(0, pageOf("x"))
	p.d.Crash(0, false, fates)
	p.x.crash(0, false, fates)
	copy(fates, []int{2, 2, 2})
	p.write(1, pageOf("y"))
	p.crash(0, false)
}

// held keeps what was handed out, so that its memory is not given out anew
// while it is asked whether somebody shares it.
var held [][]byte

// apart complains if two lists have memory in common, the room behind them
// taken in.
func apart(t *testing.T, what string, l ...[]byte) {
	t.Helper()
	held = append(held, l...)
	for i, a := range l {
		for _, b := range l[:i] {
			if cap(a) == 0 || cap(b) == 0 {
				continue
			}
			from, to := uintptr(unsafe.Pointer(unsafe.SliceData(a))), uintptr(unsafe.Pointer(unsafe.SliceData(b)))
			if from < to+uintptr(cap(b)) && to < from+uintptr(cap(a)) {
				t.Fatalf("%s: memory is shared", what)
			}
		}
	}
}

func TestP1401NewMemory(t *testing.T) {
	for _, n := range []int{1, 8, 100, 512, 5000} {
		p := begin(t, 10000, 2)
		log, page := []byte(repeated(n)), []byte(pageOf(repeated(n)))
		p.d.Append(log)
		p.d.Write(1, page)
		l := [][]byte{log, page}
		for _, at := range []int{0, 0, n - 1, n, n} {
			b, _ := p.d.Read(at)
			l = append(l, b)
		}
		for _, i := range []int{0, 0, 1, 1} {
			b, _ := p.d.Load(i)
			l = append(l, b)
		}
		p.d.Crash(n, true, []int{2})
		for range 2 {
			b, _ := p.d.Read(0)
			q, _ := p.d.Load(1)
			l = append(l, b, q)
		}
		apart(t, "answers", l...)
	}
}

// What is done to an answer, and to the room behind it, is not seen on the disk,
// nor in another answer; nor is what is done to the disk seen in an answer.
func TestP1401AnswersAreNew(t *testing.T) {
	p := begin(t, 2000, 2)
	spoil := func(b []byte) {
		for i := range b[:cap(b)] {
			b[:cap(b)][i] = '!'
		}
	}
	for _, s := range []string{"one", repeated(600), "two"} {
		p.append(s)
		p.write(1, pageOf(s))
		for at := p.d.Base(); at <= p.d.End(); at += 1 + at/3 {
			first, _ := p.d.Read(at)
			second, _ := p.d.Read(at)
			want := string(second)
			spoil(first)
			p.holds("Read")
			if string(second) != want {
				t.Fatal("another answer was changed")
			}
			p.append("more")
			p.cut(p.d.End() - 4)
			if string(second) != want {
				t.Fatal("an answer was changed later")
			}
		}
		for page := range 2 {
			first, _ := p.d.Load(page)
			second, _ := p.d.Load(page)
			want := string(second)
			spoil(first)
			p.holds("Load")
			p.write(page, pageOf("x"+s))
			if string(second) != want {
				t.Fatal("an answer was changed")
			}
		}
		kept, _ := p.d.Read(p.d.Base())
		want := string(kept)
		p.crash(2, true, 2, 1)
		if string(kept) != want {
			t.Fatal("an answer was changed by a crash")
		}
	}
}

// What a disk is told to do with what it answered itself.
func TestP1401AnswersAsArguments(t *testing.T) {
	p := begin(t, 100, 2)
	p.append("abc")
	for range 3 {
		b, _ := p.d.Read(1)
		p.d.Append(b)
		p.x.append(string(b))
		p.holds("Append")
	}
	p.write(0, pageOf("abc"))
	b, _ := p.d.Load(0)
	p.d.Write(1, b)
	p.x.write(1, string(b))
	p.write(0, pageOf("d"))
	p.holds("Write")
}

func TestP1401NilAndEmpty(t *testing.T) {
	d, _ := disk.New(3, 1)
	for _, b := range [][]byte{nil, {}, make([]byte, 0, 5)} {
		d.Append([]byte("a"))
		if at, e := d.Append(b); at != d.End() || e != api.OK {
			t.Error(at, e)
		}
		if e := d.Write(0, b); e != api.ErrArg {
			t.Error(e)
		}
	}
	isLog(t, d, 0, "aaa")
	for _, fates := range [][]int{nil, {}, make([]int, 0, 5)} {
		d.Write(0, []byte(pageOf("x")))
		d.Crash(3, false, fates)
		isLog(t, d, 0, "aaa")
		isPage(t, d, 0, pageOf(zeros))
	}
}

// The same calls make the same disk.
func TestP1401TheSameAgain(t *testing.T) {
	build := func() []string {
		var l []string
		p := begin(t, 60, 3)
		for i := range 300 {
			mixedStep(p, i, 2)
			b, _ := p.d.Read(p.d.Base())
			l = append(l, string(b))
			for page := range 3 {
				q, _ := p.d.Load(page)
				l = append(l, string(q))
			}
		}
		return l
	}
	first := build()
	for range 3 {
		if !slices.Equal(first, build()) {
			t.Fatal("another disk")
		}
	}
}

// Disks of their own may be worked with, and one may be looked at, by several at
// once.
func TestP1401SeveralAtOnce(t *testing.T) {
	one := begin(t, 100, 2)
	one.append("abc")
	one.write(1, pageOf("p"))
	wrong := make([]int, 8)
	var wait sync.WaitGroup
	for i := range wrong {
		wait.Add(1)
		go func() {
			defer wait.Done()
			own, _ := disk.New(100, 2)
			for range 30 {
				b, _ := one.d.Read(0)
				q, _ := one.d.Load(1)
				own.Append(b)
				own.Write(0, q)
				own.Crash(2, false, []int{1})
			}
			b, _ := own.Read(0)
			q, _ := own.Load(0)
			if string(b) != string(bytes.Repeat([]byte("ab"), 30)) || string(q) != pageOf("p") || one.d.Down() || one.d.End() != 3 {
				wrong[i]++
			}
		}()
	}
	wait.Wait()
	if slices.Max(wrong) > 0 {
		t.Error(wrong)
	}
	one.holds("looked at")
}

// Every call ends, whatever it is given.
func TestP1401WhateverComes(t *testing.T) {
	d, _ := disk.New(1<<24, 65536)
	huge := bytes.Repeat([]byte("0123456789abcdef"), 1<<20)
	if _, e := d.Append(append(huge, 'x')); e != api.ErrFull {
		t.Error(e)
	}
	for range 3 {
		at, e := d.Append(huge)
		if at != d.Base() || e != api.OK {
			t.Fatal(at, e)
		}
		if b, e := d.Read(at + 1); !bytes.Equal(b, huge[1:]) || e != api.OK {
			t.Fatal(len(b), e)
		}
		if _, e := d.Append([]byte("x")); e != api.ErrFull {
			t.Error(e)
		}
		d.Write(0, huge)
		d.Crash(great, true, make([]int, 1<<20))
		d.Retire(d.End())
	}
	isLog(t, d, 3<<24, "")
	for i := range 65536 {
		if e := d.Write(i, []byte(pageOf(string(rune('a'+i%26))))); e != api.OK {
			t.Fatal(i, e)
		}
	}
	fates := make([]int, 65536)
	for i := range fates {
		fates[i] = i % 3
	}
	d.Crash(least, true, fates)
	for i := range fates {
		isPage(t, d, i, []string{pageOf(zeros), pageOf(string(rune('a' + i%26))), pageOf("\xff")}[i%3])
	}
}

// Many small steps at a long log end soon.
func TestP1401ManySteps(t *testing.T) {
	d, _ := disk.New(1<<20, 4)
	chunk := []byte(repeated(100))
	for i := range 200000 {
		if d.End()-d.Base()+len(chunk) > 1<<20 {
			d.Retire(d.Base() + len(chunk))
		}
		if at, e := d.Append(chunk); at != i*100 || e != api.OK {
			t.Fatal(i, at, e)
		}
		if i%10 == 0 {
			d.Sync()
		}
	}
	if b, e := d.Read(d.End() - 200); string(b) != repeated(100)+repeated(100) || e != api.OK {
		t.Error(short(b), e)
	}
}
