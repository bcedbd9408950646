package wal_test

import (
	"strings"
	"testing"

	"longstop/api"
	"longstop/wal"
)

func TestP1504Example(t *testing.T) {
	p := begin(t, 100)
	p.all(p.append("a"), p.append("b"))
	if p.d.End() != 20 {
		t.Error(p.d.End())
	}
	p.has(0, "a", "b")
}

func TestP1504Append(t *testing.T) {
	p := begin(t, 1<<22)
	l := []string{"", "a", "", repeated(63), repeated(64), repeated(8191), repeated(8192), strings.Repeat("\x00", 30), recordOf("in"), repeated(1 << 20)}
	for i, s := range l {
		p.all(p.append(s))
		p.has(0, l[:i+1]...)
	}
}

// Record's error comes first; nothing of that is done.
func TestP1504AppendTooLong(t *testing.T) {
	p := started(t, 1<<23, "a")
	long := repeated(1<<20 + 1)
	p.fuse(1)
	p.each(api.ErrSize, p.append(long), p.append(long+long))
	p.all(p.append("b"))
	p.has(0, "a", "b")
	p.each(api.ErrPower, p.append("c"))
	p.each(api.ErrSize, p.append(long))
	p.crash(great, false)
	// Nor does it matter that there is no room.
	p = started(t, 10, "a")
	p.each(api.ErrSize, p.append(long))
	p.has(0, "a")
}

func TestP1504AppendFull(t *testing.T) {
	for most := 1; most < 40; most++ {
		p := begin(t, most)
		for range 5 {
			for _, s := range []string{"abcdef", "ab", "a", ""} {
				p.append(s)
				p.holds("Append")
			}
		}
	}
	p := begin(t, 20)
	p.each(api.ErrFull, p.append(repeated(12)))
	p.all(p.append(repeated(11)))
	p.each(api.ErrFull, p.append(""))
	p.has(0, repeated(11))
	p = started(t, 20, "a", "b")
	p.each(api.ErrFull, p.append(""))
	p.all(p.retire(10), p.append("c"))
	p.each(api.ErrFull, p.append(""))
	p.all(p.truncate(20), p.append(""))
	p.each(api.ErrFull, p.append(""))
	p.has(10, "b", "")
}

func TestP1504Power(t *testing.T) {
	for name, call := range map[string]func(p *pair) api.Errno{
		"Append":            func(p *pair) api.Errno { return p.append("x") },
		"Sync":              func(p *pair) api.Errno { return p.sync() },
		"Truncate":          func(p *pair) api.Errno { return p.truncate(10) },
		"Truncate at Base":  func(p *pair) api.Errno { return p.truncate(0) },
		"Truncate at End":   func(p *pair) api.Errno { return p.truncate(20) },
		"Retire":            func(p *pair) api.Errno { return p.retire(10) },
		"Retire at Base":    func(p *pair) api.Errno { return p.retire(0) },
		"Retire at the End": func(p *pair) api.Errno { return p.retire(20) },
	} {
		for k := range 3 {
			p := started(t, 1000, "a")
			p.all(p.sync(), p.append("b"))
			p.fuse(k)
			for range k {
				p.all(p.sync())
			}
			p.each(api.ErrPower, call(p), call(p))
			p.holds(name)
			p.crash(great, false)
			p.all(p.open())
			p.has(0, "a", "b")
		}
		// One operation of the disk each.
		p := started(t, 1000, "a", "b")
		p.fuse(1)
		p.all(call(p))
		p.holds(name)
		p.each(api.ErrPower, call(p))
	}
}

// While the power is off what there is is still told, and a wrong place is
// named first.
func TestP1504LooksWithoutPower(t *testing.T) {
	p := started(t, 1000, "a", "b", "c")
	p.all(p.truncate(20), p.retire(10), p.append("def"))
	p.fuse(0)
	p.each(api.ErrPower, p.append("x"))
	for range 2 {
		p.all(p.since(10), p.since(20), p.since(32))
		for _, at := range []int{0, 9, 11, 31, 33, -1, least, great} {
			p.each(api.ErrArg, p.since(at), p.truncate(at), p.retire(at))
		}
		p.each(api.ErrPower, p.truncate(20), p.retire(20), p.truncate(32), p.retire(10), p.sync(), p.append(""))
		p.holds("no power")
	}
}

// Wrong places, and what is too long or has no room, take nothing of the fuse.
func TestP1504NoOperation(t *testing.T) {
	p := started(t, 30, "a", "b")
	p.fuse(1)
	for range 3 {
		p.each(api.ErrArg, p.truncate(5), p.retire(5), p.since(5), p.truncate(-1), p.retire(21))
		p.each(api.ErrFull, p.append("too long for that"))
		p.each(api.ErrSize, p.append(repeated(1<<20+1)))
		p.all(p.since(0), p.since(10), p.since(20))
		p.holds("no operation")
	}
	p.all(p.sync())
	p.each(api.ErrPower, p.sync())
}

// Each place of a log, and those beyond it, at each call that takes one.
func TestP1504Places(t *testing.T) {
	build := func() *pair {
		p := started(t, 1000, "gone", "one", "", recordOf("in")+recordOf(""), "two", "cut")
		p.all(p.retire(13), p.sync(), p.truncate(p.x.notes[4].at), p.append("three"))
		return p
	}
	x := build().x
	for at := -3; at < x.end+10; at++ {
		_, right := x.place(at)
		want := api.ErrArg
		if right {
			want = api.OK
		}
		for _, again := range []bool{false, true} {
			for _, call := range []func(*pair, int) api.Errno{(*pair).since, (*pair).truncate, (*pair).retire} {
				p := build()
				if again {
					p.all(p.open())
				}
				p.each(want, call(p, at))
				p.holds("a place")
				p.all(p.append("behind"))
				p.holds("Append behind a place")
				p.all(p.open())
			}
		}
	}
	p := build()
	for _, at := range []int{least, least + 1, -great, -13, 1 << 32, great - 1, great} {
		p.each(api.ErrArg, p.since(at), p.truncate(at), p.retire(at))
	}
	p.holds("far places")
}

func TestP1504Since(t *testing.T) {
	l := []string{"one", "two", "", "three"}
	p := started(t, 100, l...)
	for i, n := range notesOf(0, l...) {
		got, e := p.w.Since(n.at)
		if e != api.OK {
			t.Fatal(e)
		}
		isList(t, "Since", got, notesOf(0, l...)[i:])
	}
	if got, e := p.w.Since(p.d.End()); len(got) != 0 || e != api.OK {
		t.Error(got, e)
	}
}

func TestP1504Sync(t *testing.T) {
	p := begin(t, 1000)
	p.all(p.sync(), p.append("a"))
	if p.w.Sure() != 0 {
		t.Error(p.w.Sure())
	}
	p.all(p.sync())
	if p.w.Sure() != 10 {
		t.Error(p.w.Sure())
	}
	p.all(p.append("b"), p.append("c"))
	p.crash(10, false)
	p.all(p.open())
	p.has(0, "a", "b")
}

// Sure: the End at the last Sync or Truncate that answered OK, or at Open.
func TestP1504Sure(t *testing.T) {
	p := started(t, 50, "a", "b", "c")
	is := func(n int) {
		t.Helper()
		if p.w.Sure() != n {
			t.Fatalf("Sure %d, not %d", p.w.Sure(), n)
		}
		p.holds("Sure")
	}
	is(0)
	p.all(p.truncate(20))
	is(20)
	p.all(p.append("d"))
	is(20)
	p.all(p.sync())
	is(30)
	p.all(p.append("e"))
	p.each(api.ErrArg, p.truncate(5))
	p.each(api.ErrFull, p.append(repeated(20)))
	is(30)
	p.all(p.truncate(40))
	is(40)
	p.all(p.truncate(10))
	is(10)
	p.all(p.retire(10))
	is(10)
	p.all(p.append("f"), p.append("g"), p.retire(20))
	is(10)
	p.fuse(0)
	p.each(api.ErrPower, p.sync())
	is(10)
	p.each(api.ErrPower, p.truncate(30))
	is(10)
	p.crash(0, false)
	is(10)
	p.all(p.open())
	is(20)
	p.all(p.append("h"), p.open())
	is(30)
}

func TestP1504Truncate(t *testing.T) {
	p := started(t, 1000, "one", "two", "three", "four")
	p.all(p.truncate(51))
	p.has(0, "one", "two", "three", "four")
	p.all(p.truncate(24))
	p.has(0, "one", "two")
	p.each(api.ErrArg, p.truncate(38), p.since(38), p.retire(38))
	p.all(p.append("x"), p.append("y"))
	p.has(0, "one", "two", "x", "y")
	p.all(p.truncate(0))
	p.has(0)
	p.each(api.ErrArg, p.truncate(12))
	p.all(p.truncate(0), p.append("z"))
	p.has(0, "z")
}

// What is truncated does not come back, whatever was sure of it.
func TestP1504TruncateIsSure(t *testing.T) {
	for _, at := range []int{0, 10, 20, 30, 40} {
		for _, behind := range []string{"", "x", "xyz"} {
			for keep := range 60 {
				p := started(t, 1000, "a", "b")
				p.all(p.sync(), p.append("c"), p.append("d"), p.truncate(at), p.append(behind))
				p.crash(keep, keep%2 > 0)
				p.all(p.open())
				p.holds("behind a crash")
			}
		}
	}
}

func TestP1504Retire(t *testing.T) {
	p := started(t, 1000, "one", "two", "three", "four")
	p.all(p.retire(0))
	p.has(0, "one", "two", "three", "four")
	p.all(p.retire(12))
	p.has(12, "two", "three", "four")
	p.each(api.ErrArg, p.retire(0), p.truncate(0), p.since(0))
	p.all(p.retire(38), p.append("x"))
	p.has(38, "four", "x")
	p.all(p.retire(p.d.End()))
	p.has(61)
	p.each(api.ErrArg, p.retire(38), p.since(60), p.since(0))
	p.all(p.append("y"), p.open())
	p.has(61, "y")
	p.all(p.truncate(61), p.open())
	p.has(61)
}

// The disk may be worked with beneath the wal, and a crash may be behind it:
// what is asked is asked of what the disk has.
func TestP1504Beneath(t *testing.T) {
	p := started(t, 1000, "a", "b")
	p.d.Append([]byte(recordOf("c")))
	isLog(t, p.w, p.d, 0, "a", "b", "c")
	if at, e := p.w.Append([]byte("d")); at != 30 || e != api.OK {
		t.Error(at, e)
	}
	isLog(t, p.w, p.d, 0, "a", "b", "c", "d")
	p.d.Cut(20)
	isLog(t, p.w, p.d, 0, "a", "b")
	if _, e := p.w.Since(30); e != api.ErrArg {
		t.Error(e)
	}
	if p.w.Truncate(30) != api.ErrArg || p.w.Retire(40) != api.ErrArg || p.w.Truncate(20) != api.OK {
		t.Error("places of a log that was cut")
	}
	p.d.Retire(10)
	isLog(t, p.w, p.d, 10, "b")
	if _, e := p.w.Since(0); e != api.ErrArg {
		t.Error(e)
	}
	p.d.Append([]byte(recordOf("e")))
	if p.w.Retire(20) != api.OK || p.w.Truncate(20) != api.OK {
		t.Error("places of a log that went on")
	}
	isLog(t, p.w, p.d, 20)
}

// Other bytes of the same number, at the same places.
func TestP1504BeneathTheSameLength(t *testing.T) {
	p := started(t, 1000, "abc", "d")
	p.d.Cut(0)
	p.d.Append([]byte(bytesOf("e", "fgh")))
	isLog(t, p.w, p.d, 0, "e", "fgh")
	if p.w.Truncate(12) != api.ErrArg || p.w.Retire(12) != api.ErrArg || p.w.Retire(10) != api.OK {
		t.Error("places of another log")
	}
	isLog(t, p.w, p.d, 10, "fgh")
	// All of it stays, but it is torn.
	p = started(t, 1000, "a")
	p.all(p.sync(), p.append("b"))
	p.crash(great, true)
	p.each(api.ErrArg, p.truncate(11), p.retire(19))
	l, e := p.w.Since(0)
	isList(t, "torn", l, notesOf(0, "a"))
	if _, f := p.w.Since(10); e != api.OK || f != api.ErrArg {
		t.Error(e, f)
	}
	if l, e := p.w.Since(20); len(l) != 0 || e != api.OK {
		t.Error(l, e)
	}
}

// The same bytes, at another Base.
func TestP1504BeneathTheSameBytes(t *testing.T) {
	for _, l := range [][]string{{"a"}, {"a", "b"}, {"", ""}} {
		p := started(t, 1000, l...)
		end := p.d.End()
		p.d.Retire(end)
		p.d.Append([]byte(bytesOf(l...)))
		for range 2 {
			isLog(t, p.w, p.d, end, l...)
			if _, e := p.w.Since(0); e != api.ErrArg {
				t.Error(e)
			}
		}
		if p.w.Truncate(0) != api.ErrArg || p.w.Retire(end-1) != api.ErrArg || p.w.Truncate(end) != api.OK {
			t.Error("places of another Base")
		}
		isLog(t, p.w, p.d, end)
	}
}

// The disk is changed beneath, and then the wal goes on: what it told of the
// log before does not count.
func TestP1504BeneathAndOn(t *testing.T) {
	p := started(t, 1000, "a")
	p.d.Append([]byte(recordOf("b")))
	p.w.Append([]byte("c"))
	p.d.Fuse(0)
	p.d.Sync()
	l, e := p.w.Since(10)
	isList(t, "without power", l, notesOf(10, "b", "c"))
	if e != api.OK || p.w.Truncate(11) != api.ErrArg || p.w.Truncate(20) != api.ErrPower {
		t.Error(e)
	}
	// The same bytes, told of by another wal at other places.
	p = started(t, 1000, "a")
	p.d.Append([]byte(recordOf("b")))
	p.w.Append([]byte("c"))
	p.d.Cut(10)
	p.d.Append([]byte(recordOf("c")))
	isLog(t, p.w, p.d, 0, "a", "c")
	if l, e := p.w.Since(20); len(l) != 0 || e != api.OK {
		t.Error(l, e)
	}
}

// Bytes that are no record, beneath the wal, end what is told; the End is behind
// them.
func TestP1504Junk(t *testing.T) {
	for _, junk := range []string{"\xff", "junk", "\x02a", strings.Repeat("\x00", 8)} {
		end := 10 + len(junk)
		build := func() (*pair, *wal.Wal) {
			p := started(t, 1000, "a")
			p.d.Append([]byte(junk))
			return p, p.w
		}
		p, w := build()
		l, e := w.Since(0)
		isList(t, "ahead of junk", l, notesOf(0, "a"))
		if _, f := w.Since(10); e != api.OK || f != api.ErrArg || w.Truncate(10) != api.ErrArg || w.Retire(10) != api.ErrArg {
			t.Error(e, f)
		}
		if l, e := w.Since(end); len(l) != 0 || e != api.OK {
			t.Error(l, e)
		}
		if w.Truncate(end) != api.OK || w.Sure() != end || p.d.End() != end || w.Retire(end) != api.OK {
			t.Error("junk at the End")
		}
		if at, e := w.Append([]byte("b")); at != end || e != api.OK {
			t.Error(at, e)
		}
		isLog(t, w, p.d, end, "b")
		p, w = build()
		if w.Truncate(0) != api.OK {
			t.Error("junk behind a record")
		}
		isLog(t, w, p.d, 0)
		p, _ = build()
		opens(t, p.d, 0, "a")
	}
}
