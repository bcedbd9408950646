package disk_test

import (
	"testing"

	"longstop/api"
	"longstop/disk"
)

func TestP1402New(t *testing.T) {
	for _, c := range []struct {
		most, pages int
		ok          bool
	}{
		{1, 0, true}, {1 << 24, 65536, true}, {1, 65536, true}, {1 << 24, 0, true}, {2, 1, true}, {1<<24 - 1, 65535, true},
		{0, 0, false}, {-1, 0, false}, {least, 0, false}, {1<<24 + 1, 0, false}, {great, 0, false},
		{1, -1, false}, {1, least, false}, {1, 65537, false}, {1, great, false}, {1 << 24, 65537, false},
		{0, -1, false}, {1<<24 + 1, 65537, false}, {great, least, false},
	} {
		d, e := disk.New(c.most, c.pages)
		if !c.ok {
			if d != nil || e != api.ErrArg {
				t.Errorf("New(%d, %d): %v, error %d", c.most, c.pages, d, e)
			}
			continue
		}
		if d == nil || e != api.OK {
			t.Fatalf("New(%d, %d): error %d", c.most, c.pages, e)
		}
		isLog(t, d, 0, "")
		if d.Down() {
			t.Error("Down")
		}
		if n := c.pages; n > 0 {
			isPage(t, d, 0, pageOf(zeros))
			isPage(t, d, n-1, pageOf(zeros))
		}
		if _, e := d.Load(c.pages); e != api.ErrArg {
			t.Errorf("page %d of %d: error %d", c.pages, c.pages, e)
		}
	}
}

func TestP1402NewHasNoFuse(t *testing.T) {
	d, _ := disk.New(1, 1)
	for range 100 {
		if e := d.Sync(); e != api.OK || d.Down() {
			t.Fatal(e)
		}
	}
}

func TestP1402Append(t *testing.T) {
	p := begin(t, 10, 1)
	p.all(p.append("abc"), p.append(""), p.append("d"), p.append("\x00\xff"), p.append(""))
	isLog(t, p.d, 0, "abcd\x00\xff")
	p.has("abcd\x00\xff", zeros)
	p.all(p.append("ghij"))
	p.has("abcd\x00\xffghij")
}

func TestP1402AppendFull(t *testing.T) {
	for _, most := range []int{1, 2, 10, 511, 512, 513, 5000} {
		p := begin(t, most, 1)
		s := repeated(most)
		p.each(api.ErrFull, p.append(s+"x"), p.append(s+s))
		p.has("")
		p.all(p.append(s[:most/2]))
		p.each(api.ErrFull, p.append(s[most/2:]+"x"), p.append(s+"x"))
		p.has(s[:most/2])
		p.all(p.append(s[most/2:]))
		p.has(s)
		for range 3 {
			p.each(api.ErrFull, p.append("x"), p.append(s))
			p.all(p.append(""))
			p.has(s)
		}
		// What is sure takes the same room.
		p.all(p.sync())
		p.each(api.ErrFull, p.append("x"))
		p.crash(0, false)
		p.each(api.ErrFull, p.append("x"))
		p.all(p.append(""))
		p.has(s)
	}
}

func TestP1402AppendBehindRetire(t *testing.T) {
	p := begin(t, 10, 0)
	p.all(p.append("abcdefghij"), p.retire(0))
	p.each(api.ErrFull, p.append("k"))
	p.all(p.retire(3))
	p.each(api.ErrFull, p.append("klmn"))
	p.all(p.append("klm"))
	isLog(t, p.d, 3, "defghijklm")
	p.each(api.ErrFull, p.append("n"))
	p.all(p.retire(13))
	isLog(t, p.d, 13, "")
	p.each(api.ErrFull, p.append("0123456789a"))
	p.all(p.append("0123456789"))
	isLog(t, p.d, 13, "0123456789")
	p.each(api.ErrFull, p.append("a"))
	p.holds("in the end")
}

func TestP1402AppendBehindCut(t *testing.T) {
	p := begin(t, 10, 0)
	p.all(p.append("abcdefghij"), p.cut(10))
	p.each(api.ErrFull, p.append("k"))
	p.all(p.cut(7))
	p.each(api.ErrFull, p.append("klmn"))
	p.all(p.append("klm"))
	p.has("abcdefgklm")
	p.each(api.ErrFull, p.append("n"))
	p.all(p.retire(2), p.cut(4))
	p.each(api.ErrFull, p.append("012345678"))
	p.all(p.append("01234567"))
	isLog(t, p.d, 2, "cd01234567")
	p.all(p.cut(2), p.append("9876543210"))
	isLog(t, p.d, 2, "9876543210")
	p.each(api.ErrFull, p.append("a"))
	p.holds("in the end")
}

// An Append that is refused changes nothing, and takes no place.
func TestP1402AppendRefused(t *testing.T) {
	p := begin(t, 4, 1)
	p.all(p.append("ab"), p.sync(), p.append("c"), p.write(0, pageOf("x")))
	p.each(api.ErrFull, p.append("de"))
	p.has("abc", "x")
	p.all(p.append("d"))
	p.each(api.ErrFull, p.append("e"))
	p.crash(1, false, 1)
	p.has("abc", "x")
}

// places gives those at and round the ends of the log, and the farthest ones.
func places(d *disk.Disk) []int {
	b, e := d.Base(), d.End()
	return []int{least, least + 1, -great, -e, -1, 0, b - 2, b - 1, b, b + 1, (b + e) / 2, e - 1, e, e + 1, e + 2, 2*e + 9, 1 << 24, great - 1, great}
}

// logs gives a log of each kind: empty, retired, cut, with sure and other bytes.
func logs(t *testing.T) map[string]func() pair {
	return map[string]func() pair{
		"new":     func() pair { return begin(t, 20, 0) },
		"started": func() pair { p := begin(t, 20, 0); p.append("abcdef"); return p },
		"full":    func() pair { p := begin(t, 6, 0); p.append("abcdef"); return p },
		"sure":    func() pair { p := begin(t, 20, 0); p.append("abcdef"); p.sync(); return p },
		"half sure": func() pair {
			p := begin(t, 20, 0)
			p.append("abcdef")
			p.sync()
			p.append("ghijkl")
			return p
		},
		"retired": func() pair {
			p := begin(t, 20, 0)
			p.append("abcdefghij")
			p.sync()
			p.append("klmno")
			p.retire(5)
			return p
		},
		"retired whole": func() pair { p := begin(t, 20, 0); p.append("abcdef"); p.retire(6); return p },
		"cut whole":     func() pair { p := begin(t, 20, 0); p.append("abcdef"); p.retire(3); p.cut(3); return p },
	}
}

// At each place, of each log, each call, and what a crash leaves behind it.
func TestP1402Places(t *testing.T) {
	for what, build := range logs(t) {
		for _, at := range places(build().d) {
			inside := at >= build().d.Base() && at <= build().d.End()
			want := api.ErrArg
			if inside {
				want = api.OK
			}
			for name, call := range map[string]func(pair) api.Errno{
				"Cut":    func(p pair) api.Errno { return p.cut(at) },
				"Retire": func(p pair) api.Errno { return p.retire(at) },
				"Read":   func(p pair) api.Errno { return p.read(at) },
			} {
				for keep := range 4 {
					p := build()
					if e := call(p); e != want {
						t.Fatalf("%s of %s at %d: error %d, not %d", name, what, at, e, want)
					}
					p.holds(name)
					p.append("xyz")
					p.holds("Append behind " + name)
					p.crash(keep, false)
				}
			}
		}
	}
}

func TestP1402Cut(t *testing.T) {
	p := begin(t, 20, 0)
	p.all(p.append("abcdef"), p.cut(6))
	p.has("abcdef")
	p.all(p.cut(4))
	p.has("abcd")
	p.each(api.ErrArg, p.cut(5), p.cut(6), p.cut(-1))
	p.all(p.append("xy"))
	p.has("abcdxy")
	p.all(p.retire(2), p.cut(2))
	isLog(t, p.d, 2, "")
	p.each(api.ErrArg, p.cut(1), p.cut(3), p.cut(0))
	p.all(p.append("z"))
	isLog(t, p.d, 2, "z")
}

// What is cut does not come back, sure or not.
func TestP1402CutIsSure(t *testing.T) {
	for at := range 7 {
		for _, behind := range []string{"", "x", "xyzxyzxyz"} {
			for keep := range 12 {
				p := begin(t, 20, 0)
				p.all(p.append("abc"), p.sync(), p.append("def"), p.cut(at), p.append(behind))
				p.crash(keep, false)
				now := "abcdef"[:at] + behind
				p.has(now[:min(len(now), min(at, 3)+keep)])
			}
		}
	}
}

// A Cut makes nothing sure that stays.
func TestP1402CutIsNoSync(t *testing.T) {
	p := begin(t, 20, 1)
	p.all(p.append("abc"), p.sync(), p.append("defg"), p.write(0, pageOf("x")), p.cut(6), p.cut(6))
	p.crash(0, false)
	p.has("abc", zeros)
}

func TestP1402Retire(t *testing.T) {
	p := begin(t, 20, 0)
	p.all(p.append("abcdef"), p.retire(0))
	isLog(t, p.d, 0, "abcdef")
	p.all(p.retire(2))
	isLog(t, p.d, 2, "cdef")
	p.all(p.retire(2))
	p.each(api.ErrArg, p.retire(1), p.retire(0), p.retire(7))
	isLog(t, p.d, 2, "cdef")
	p.all(p.append("gh"))
	isLog(t, p.d, 2, "cdefgh")
	p.all(p.retire(8))
	isLog(t, p.d, 8, "")
	p.each(api.ErrArg, p.retire(7), p.retire(9), p.read(7), p.cut(7))
	p.all(p.append("i"))
	isLog(t, p.d, 8, "i")
}

// What is retired stays so, also where it was not sure; what stays is as sure as
// it was.
func TestP1402RetireIsSure(t *testing.T) {
	for at := range 8 {
		for keep := range 8 {
			p := begin(t, 20, 1)
			p.all(p.append("abc"), p.sync(), p.append("defg"), p.write(0, pageOf("x")), p.retire(at))
			p.crash(keep, false)
			isLog(t, p.d, at, "abcdefg"[at:min(7, max(3, at)+keep)])
			isPage(t, p.d, 0, pageOf(zeros))
			p.each(api.ErrArg, p.read(at-1), p.cut(at-1), p.retire(at-1))
		}
	}
}

func TestP1402Read(t *testing.T) {
	p := begin(t, 2000, 0)
	s := repeated(1000)
	p.all(p.append(s[:300]), p.sync(), p.append(s[300:]), p.retire(100))
	for at := 100; at <= 1000; at++ {
		b, e := p.d.Read(at)
		if string(b) != s[at:] || e != api.OK {
			t.Fatalf("Read at %d: %s, error %d", at, short(b), e)
		}
	}
	for _, at := range []int{99, 1001, 0, -1, least, great} {
		if b, e := p.d.Read(at); len(b) != 0 || cap(b) != 0 || e != api.ErrArg {
			t.Errorf("Read at %d: %s, error %d", at, short(b), e)
		}
	}
}

// Looks change nothing, and make nothing sure.
func TestP1402Looks(t *testing.T) {
	p := begin(t, 20, 2)
	p.all(p.append("abc"), p.sync(), p.append("def"), p.write(1, pageOf("x")))
	for range 3 {
		p.holds("looks")
	}
	p.crash(1, false)
	p.has("abcd", zeros, zeros)
}

func TestP1402Sync(t *testing.T) {
	p := begin(t, 20, 3)
	p.all(p.sync(), p.append("abc"), p.write(0, pageOf("x")), p.write(2, pageOf("y")), p.sync(), p.sync())
	p.crash(0, true, 2, 2, 2)
	p.has("abc", "x", zeros, "y")
	p.all(p.append("def"), p.write(0, pageOf("z")), p.sync())
	p.crash(0, true, 2)
	p.has("abcdef", "z", zeros, "y")
	// Only the last one of several counts.
	p.all(p.append("g"), p.sync(), p.append("h"), p.sync(), p.append("i"))
	p.crash(0, false)
	p.has("abcdefgh")
}
