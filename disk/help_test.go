package disk_test

import (
	"fmt"
	"math"
	"math/rand"
	"strings"
	"testing"

	"longstop/api"
	"longstop/disk"
)

const (
	least = math.MinInt
	great = math.MaxInt
)

// short tells x in a line that can be read.
func short(x any) string {
	s := fmt.Sprintf("%+q", x)
	return s[:min(len(s), 200)]
}

func pick[T any](r *rand.Rand, l ...T) T { return l[r.Intn(len(l))] }

// repeated gives a text of n bytes, neighbours unlike.
func repeated(n int) string { return strings.Repeat("abcdefghijklm", n/13+1)[:n] }

// pair is a disk and the teller of it: each call is asked of both.
type pair struct {
	t *testing.T
	d *disk.Disk
	x *told
}

func begin(t *testing.T, most, pages int) pair {
	t.Helper()
	d, e := disk.New(most, pages)
	if d == nil || e != api.OK {
		t.Fatalf("New(%d, %d): error %d", most, pages, e)
	}
	p := pair{t, d, toldNew(most, pages)}
	p.holds("New")
	return p
}

func (p pair) same(what string, e, want api.Errno) {
	p.t.Helper()
	if e != want {
		p.t.Fatalf("%s: error %d, not %d", what, e, want)
	}
}

func (p pair) append(s string) api.Errno {
	p.t.Helper()
	at, e := p.d.Append([]byte(s))
	place, want := p.x.append(s)
	p.same("Append of "+short(s), e, want)
	if at != place {
		p.t.Fatalf("Append of %s: place %d, not %d", short(s), at, place)
	}
	return e
}

func (p pair) sync() api.Errno {
	p.t.Helper()
	e := p.d.Sync()
	p.same("Sync", e, p.x.sync())
	return e
}

func (p pair) cut(at int) api.Errno {
	p.t.Helper()
	e := p.d.Cut(at)
	p.same(fmt.Sprint("Cut at ", at), e, p.x.cut(at))
	return e
}

func (p pair) retire(at int) api.Errno {
	p.t.Helper()
	e := p.d.Retire(at)
	p.same(fmt.Sprint("Retire at ", at), e, p.x.retire(at))
	return e
}

func (p pair) read(at int) api.Errno {
	p.t.Helper()
	b, e := p.d.Read(at)
	s, want := p.x.read(at)
	p.same(fmt.Sprint("Read at ", at), e, want)
	if string(b) != s {
		p.t.Fatalf("Read at %d: %s, not %s", at, short(b), short(s))
	}
	return e
}

func (p pair) write(page int, s string) api.Errno {
	p.t.Helper()
	e := p.d.Write(page, []byte(s))
	p.same(fmt.Sprintf("Write of %d bytes to page %d", len(s), page), e, p.x.write(page, s))
	return e
}

func (p pair) load(page int) api.Errno {
	p.t.Helper()
	b, e := p.d.Load(page)
	s, want := p.x.load(page)
	p.same(fmt.Sprint("Load of page ", page), e, want)
	if string(b) != s {
		p.t.Fatalf("Load of page %d: %s, not %s", page, short(b), short(s))
	}
	return e
}

func (p pair) fuse(k int) {
	p.d.Fuse(k)
	p.x.fuse = k
}

func (p pair) crash(keep int, torn bool, fates ...int) {
	p.t.Helper()
	p.d.Crash(keep, torn, fates)
	p.x.crash(keep, torn, fates)
	p.holds(fmt.Sprint("Crash ", keep, torn, fates))
}

// holds complains unless the disk has just what the teller has.
func (p pair) holds(what string) {
	p.t.Helper()
	if p.d.Base() != p.x.base || p.d.End() != p.x.end() || p.d.Down() != p.x.down {
		p.t.Fatalf("%s: Base %d, End %d, Down %v, not %d, %d, %v", what, p.d.Base(), p.d.End(), p.d.Down(), p.x.base, p.x.end(), p.x.down)
	}
	p.read(p.x.base)
	p.read(p.x.base - 1)
	p.read(p.x.end() + 1)
	p.read((p.x.base + p.x.end()) / 2)
	p.load(-1)
	for page := range min(len(p.x.leaves), 8) {
		p.load(page)
	}
	p.load(len(p.x.leaves))
}

// has complains unless the log, from its Base on, and the first pages' first
// bytes are these.
func (p pair) has(log string, pages ...string) {
	p.t.Helper()
	p.holds("in the end")
	isLog(p.t, p.d, p.d.Base(), log)
	for i, s := range pages {
		isPage(p.t, p.d, i, pageOf(s))
	}
}

// all complains unless each of these was answered OK.
func (p pair) all(l ...api.Errno) {
	p.t.Helper()
	p.each(api.OK, l...)
}

// each complains unless each of these was answered that.
func (p pair) each(want api.Errno, l ...api.Errno) {
	p.t.Helper()
	for i, e := range l {
		if e != want {
			p.t.Fatalf("call %d: error %d, not %d", i, e, want)
		}
	}
}

func isLog(t *testing.T, d *disk.Disk, base int, s string) {
	t.Helper()
	b, e := d.Read(base)
	if d.Base() != base || d.End() != base+len(s) || string(b) != s || e != api.OK {
		t.Fatalf("the log is %s from %d to %d, error %d, not %s from %d to %d", short(b), d.Base(), d.End(), e, short(s), base, base+len(s))
	}
}

func isPage(t *testing.T, d *disk.Disk, page int, s string) {
	t.Helper()
	if b, e := d.Load(page); string(b) != s || e != api.OK {
		t.Fatalf("page %d is %s, error %d, not %s", page, short(b), e, short(s))
	}
}
