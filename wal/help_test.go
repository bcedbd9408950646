package wal_test

import (
	"fmt"
	"math"
	"math/rand"
	"strings"
	"testing"

	"longstop/api"
	"longstop/disk"
	"longstop/wal"
)

const (
	least = math.MinInt
	great = math.MaxInt
)

// short tells x in a line that can be read.
func short(x any) string {
	s := fmt.Sprintf("%+q", x)
	return s[:min(len(s), 300)]
}

func pick[T any](r *rand.Rand, l ...T) T { return l[r.Intn(len(l))] }

// repeated gives a text of n bytes, neighbours unlike.
func repeated(n int) string { return strings.Repeat("abcdefghijklm", n/13+1)[:n] }

func newDisk(t *testing.T, most int) *disk.Disk {
	t.Helper()
	d, e := disk.New(most, 1)
	if d == nil || e != api.OK {
		t.Fatal("no disk", e)
	}
	return d
}

// isList complains unless l is a list of these records.
func isList(t *testing.T, what string, l []wal.Entry, want []note) {
	t.Helper()
	if len(l) != len(want) {
		t.Fatalf("%s: %d records, %s, not %d, %s", what, len(l), short(l), len(want), short(want))
	}
	for i, x := range l {
		if x.At != want[i].at || string(x.B) != want[i].in {
			t.Fatalf("%s: record %d is %s at %d, not %s at %d", what, i, short(x.B), x.At, short(want[i].in), want[i].at)
		}
	}
}

// notesOf lays records of these texts one behind the other.
func notesOf(base int, l ...string) []note {
	var n []note
	for _, s := range l {
		n = append(n, note{at: base, size: sizeOf(s), in: s})
		base += sizeOf(s)
	}
	return n
}

// bytesOf gives the bytes of records of these texts.
func bytesOf(l ...string) string {
	var b strings.Builder
	for _, s := range l {
		b.WriteString(recordOf(s))
	}
	return b.String()
}

// pair is a wal, its disk and the teller of them: each call is asked of both.
type pair struct {
	t *testing.T
	d *disk.Disk
	w *wal.Wal
	x *told
}

// begin opens a wal of an empty log of at most so many bytes.
func begin(t *testing.T, most int) *pair {
	t.Helper()
	p := &pair{t: t, d: newDisk(t, most), x: &told{most: most, fuse: -1}}
	p.all(p.open())
	return p
}

// started opens a wal and appends these.
func started(t *testing.T, most int, l ...string) *pair {
	t.Helper()
	p := begin(t, most)
	for _, s := range l {
		p.all(p.append(s))
	}
	return p
}

func (p *pair) same(what string, e, want api.Errno) {
	p.t.Helper()
	if e != want {
		p.t.Fatalf("%s: error %d, not %d", what, e, want)
	}
}

// open opens a wal of the disk. With an error the old one is gone on with.
func (p *pair) open() api.Errno {
	p.t.Helper()
	w, l, e := wal.Open(p.d)
	p.same("Open", e, p.x.open())
	if (w != nil) != (e == api.OK) || e != api.OK && len(l) > 0 {
		p.t.Fatalf("Open: %v, %s, error %d", w != nil, short(l), e)
	}
	if e == api.OK {
		isList(p.t, "Open", l, p.x.notes)
		p.w = w
		p.holds("Open")
	}
	return e
}

func (p *pair) append(s string) api.Errno {
	p.t.Helper()
	at, e := p.w.Append([]byte(s))
	place, want := p.x.append(s)
	p.same("Append of "+short(s), e, want)
	if at != place {
		p.t.Fatalf("Append of %s: place %d, not %d", short(s), at, place)
	}
	return e
}

func (p *pair) sync() api.Errno {
	p.t.Helper()
	e := p.w.Sync()
	p.same("Sync", e, p.x.sync())
	return e
}

func (p *pair) truncate(at int) api.Errno {
	p.t.Helper()
	e := p.w.Truncate(at)
	p.same(fmt.Sprint("Truncate at ", at), e, p.x.truncate(at))
	return e
}

func (p *pair) retire(at int) api.Errno {
	p.t.Helper()
	e := p.w.Retire(at)
	p.same(fmt.Sprint("Retire at ", at), e, p.x.retire(at))
	return e
}

func (p *pair) since(at int) api.Errno {
	p.t.Helper()
	l, e := p.w.Since(at)
	want, f := p.x.since(at)
	p.same(fmt.Sprint("Since ", at), e, f)
	isList(p.t, fmt.Sprint("Since ", at), l, want)
	return e
}

func (p *pair) fuse(k int) {
	p.d.Fuse(k)
	p.x.fuse = k
}

func (p *pair) crash(keep int, torn bool) {
	p.t.Helper()
	p.d.Crash(keep, torn, nil)
	p.x.crash(keep, torn)
	p.holds(fmt.Sprint("Crash ", keep, torn))
}

// holds complains unless the wal and its disk have just what the teller has.
func (p *pair) holds(what string) {
	p.t.Helper()
	if p.d.Base() != p.x.base || p.d.End() != p.x.end || p.d.Down() != p.x.down {
		p.t.Fatalf("%s: Base %d, End %d, Down %v, not %d, %d, %v", what, p.d.Base(), p.d.End(), p.d.Down(), p.x.base, p.x.end, p.x.down)
	}
	if p.w.Sure() != p.x.sure {
		p.t.Fatalf("%s: Sure %d, not %d", what, p.w.Sure(), p.x.sure)
	}
	for _, at := range []int{p.x.base, p.x.end, p.x.base - 1, p.x.end + 1, (p.x.base + p.x.end) / 2} {
		p.since(at)
	}
	if n := len(p.x.notes); n > 0 {
		p.since(p.x.notes[n/2].at)
		p.since(p.x.notes[n-1].at)
		p.since(p.x.notes[n-1].at + 1)
	}
}

// has complains unless the log has just these records.
func (p *pair) has(base int, l ...string) {
	p.t.Helper()
	p.holds("in the end")
	isLog(p.t, p.w, p.d, base, l...)
}

func isLog(t *testing.T, w *wal.Wal, d *disk.Disk, base int, l ...string) {
	t.Helper()
	got, e := w.Since(base)
	if e != api.OK {
		t.Fatalf("Since %d: error %d", base, e)
	}
	isList(t, "the log", got, notesOf(base, l...))
	b, e := d.Read(base)
	if d.Base() != base || string(b) != bytesOf(l...) || e != api.OK {
		t.Fatalf("the disk has %s from %d on, error %d, not %s from %d on", short(b), d.Base(), e, short(bytesOf(l...)), base)
	}
}

// all complains unless each of these was answered OK.
func (p *pair) all(l ...api.Errno) {
	p.t.Helper()
	p.each(api.OK, l...)
}

// each complains unless each of these was answered that.
func (p *pair) each(want api.Errno, l ...api.Errno) {
	p.t.Helper()
	for i, e := range l {
		if e != want {
			p.t.Fatalf("call %d: error %d, not %d", i, e, want)
		}
	}
}
