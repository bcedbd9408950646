package wal_test

import (
	"strings"
	"testing"

	"longstop/api"
	"longstop/disk"
	"longstop/wal"
)

// fails complains unless Open answers that error, and nothing else.
func fails(t *testing.T, what string, d *disk.Disk, want api.Errno) {
	t.Helper()
	w, l, e := wal.Open(d)
	if w != nil || len(l) != 0 || e != want {
		t.Errorf("%s: %v, %s, error %d, not %d", what, w != nil, short(l), e, want)
	}
}

// opens complains unless Open tells these records, and all is sure then.
func opens(t *testing.T, d *disk.Disk, base int, l ...string) *wal.Wal {
	t.Helper()
	w, got, e := wal.Open(d)
	if w == nil || e != api.OK {
		t.Fatalf("Open: error %d", e)
	}
	isList(t, "Open", got, notesOf(base, l...))
	isLog(t, w, d, base, l...)
	if w.Sure() != d.End() {
		t.Fatalf("Sure %d, not %d", w.Sure(), d.End())
	}
	return w
}

func TestP1503NoDisk(t *testing.T) {
	for range 2 {
		fails(t, "nil", nil, api.ErrArg)
		fails(t, "zero", new(disk.Disk), api.ErrArg)
	}
	d := newDisk(t, 10)
	*d = disk.Disk{}
	fails(t, "overwritten", d, api.ErrArg)
}

func TestP1503NoPower(t *testing.T) {
	d := newDisk(t, 100)
	d.Append([]byte(bytesOf("a") + "junk"))
	d.Sync()
	d.Fuse(0)
	d.Sync()
	for range 3 {
		fails(t, "no power", d, api.ErrPower)
	}
	d.Crash(0, false, nil)
	if d.End() != 14 {
		t.Error("the log was cut without power", d.End())
	}
	opens(t, d, 0, "a")
}

func TestP1503Empty(t *testing.T) {
	d := newDisk(t, 100)
	for range 3 {
		opens(t, d, 0)
	}
	d.Append([]byte("abc"))
	d.Retire(3)
	opens(t, d, 3)
}

// What stands behind the last record is cut, whether it was sure or not.
func TestP1503Tail(t *testing.T) {
	for _, tail := range []string{"", "\x00", "junk", recordOf("ab")[:10], strings.Repeat("\x00", 8), "\x01" + bytesOf("c", "d")} {
		for _, l := range [][]string{{}, {"a"}, {"", "abc"}} {
			for _, sure := range []bool{false, true} {
				d := newDisk(t, 1000)
				d.Append([]byte(bytesOf(l...) + tail))
				if sure {
					d.Sync()
				}
				w := opens(t, d, 0, l...)
				d.Crash(0, true, nil)
				isLog(t, w, d, 0, l...)
				opens(t, d, 0, l...)
			}
		}
	}
}

func TestP1503TailBehindBase(t *testing.T) {
	d := newDisk(t, 1000)
	d.Append([]byte("abc" + bytesOf("one", "two") + "tail"))
	d.Retire(3)
	opens(t, d, 3, "one", "two")
	// A Base within a record: no record begins there, so all is cut.
	d.Retire(4)
	opens(t, d, 4)
	if d.Base() != 4 || d.End() != 4 {
		t.Error(d.Base(), d.End())
	}
}

// An Open makes all sure, also where there is nothing to cut.
func TestP1503Synced(t *testing.T) {
	for _, tail := range []string{"", "tail"} {
		d := newDisk(t, 1000)
		d.Append([]byte(bytesOf("a", "b") + tail))
		page := make([]byte, 512)
		page[0] = 1
		d.Write(0, page)
		opens(t, d, 0, "a", "b")
		d.Crash(0, true, []int{2})
		opens(t, d, 0, "a", "b")
		if b, _ := d.Load(0); b[0] != 1 || b[511] != 0 {
			t.Error("the page was not synced")
		}
	}
}

// Cut is done only if there is something to cut, Sync always, and the power may
// go at either.
func TestP1503Operations(t *testing.T) {
	for _, c := range []struct {
		tail string
		fuse int
		e    api.Errno
		end  int
	}{
		{"", 0, api.ErrPower, 20}, {"", 1, api.OK, 20},
		{"tail", 0, api.ErrPower, 24}, {"tail", 1, api.ErrPower, 20}, {"tail", 2, api.OK, 20},
	} {
		d := newDisk(t, 1000)
		d.Append([]byte(bytesOf("a", "b") + c.tail))
		d.Fuse(c.fuse)
		w, l, e := wal.Open(d)
		if e != c.e || (w != nil) != (e == api.OK) || (len(l) == 2) != (e == api.OK) || d.End() != c.end || d.Down() != (e != api.OK) {
			t.Errorf("tail %q, fuse %d: %s, error %d, End %d", c.tail, c.fuse, short(l), e, d.End())
		}
		if e == api.OK && d.Sync() != api.ErrPower {
			t.Errorf("tail %q, fuse %d: too few operations", c.tail, c.fuse)
		}
		// Nothing was sure, but by an Open that was OK.
		d.Crash(0, false, nil)
		if e == api.OK {
			opens(t, d, 0, "a", "b")
		} else {
			opens(t, d, 0)
		}
	}
}

// Two wals of one disk: each tells what the disk has.
func TestP1503TwoWals(t *testing.T) {
	d := newDisk(t, 1000)
	a := opens(t, d, 0)
	b := opens(t, d, 0)
	for i, s := range []string{"one", "two", "three", "four"} {
		w := []*wal.Wal{a, b}[i%2]
		if at, e := w.Append([]byte(s)); at != []int{0, 12, 24, 38}[i] || e != api.OK {
			t.Fatal(at, e)
		}
		l := []string{"one", "two", "three", "four"}[:i+1]
		isLog(t, a, d, 0, l...)
		isLog(t, b, d, 0, l...)
	}
	if a.Truncate(38) != api.OK || b.Retire(12) != api.OK {
		t.Fatal()
	}
	isLog(t, a, d, 12, "two", "three")
	isLog(t, b, d, 12, "two", "three")
	if _, e := a.Since(0); e != api.ErrArg {
		t.Error(e)
	}
	if _, e := b.Since(51); e != api.ErrArg {
		t.Error(e)
	}
	if at, e := a.Append([]byte("five")); at != 38 || e != api.OK {
		t.Error(at, e)
	}
	opens(t, d, 12, "two", "three", "five")
}
