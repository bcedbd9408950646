package disk_test

import (
	"testing"

	"longstop/api"
)

func TestP1403Example(t *testing.T) {
	p := begin(t, 10, 0)
	p.all(p.append("ab"))
	p.crash(1, false)
	p.has("a")
}

// half is a disk with the log abcdefg, of which abc is sure.
func half(t *testing.T) pair {
	t.Helper()
	p := begin(t, 20, 5)
	p.all(p.append("abc"), p.sync(), p.append("de"), p.append("fg"))
	return p
}

func TestP1403Keep(t *testing.T) {
	for _, c := range []struct {
		keep int
		log  string
	}{
		{least, "abc"}, {-4, "abc"}, {-1, "abc"}, {0, "abc"}, {1, "abcd"}, {2, "abcde"}, {3, "abcdef"},
		{4, "abcdefg"}, {5, "abcdefg"}, {7, "abcdefg"}, {1 << 32, "abcdefg"}, {great, "abcdefg"},
	} {
		p := half(t)
		p.crash(c.keep, false)
		p.has(c.log)
		if at, e := p.d.Append([]byte("x")); at != len(c.log) || e != api.OK {
			t.Errorf("keep %d: Append: %d, error %d", c.keep, at, e)
		}
	}
}

// The last one of those that stay, and are not sure, is another byte: 85 is
// flipped in it.
func TestP1403Torn(t *testing.T) {
	for _, c := range []struct {
		keep int
		log  string
	}{
		{least, "abc"}, {-1, "abc"}, {0, "abc"}, {1, "abc1"}, {2, "abcd0"}, {3, "abcde3"},
		{4, "abcdef2"}, {5, "abcdef2"}, {great, "abcdef2"},
	} {
		p := half(t)
		p.crash(c.keep, true)
		p.has(c.log)
	}
	// All is sure, or there is nothing.
	p := begin(t, 20, 0)
	p.crash(3, true)
	p.has("")
	p.all(p.append("abc"), p.sync())
	p.crash(3, true)
	p.has("abc")
	p.all(p.append(""))
	p.crash(3, true)
	p.has("abc")
	p.all(p.append("d"), p.cut(3))
	p.crash(3, true)
	p.has("abc")
	p.all(p.append("d"), p.retire(4))
	p.crash(3, true)
	isLog(t, p.d, 4, "")
}

func TestP1403TornBytes(t *testing.T) {
	for n := range 256 {
		p := begin(t, 20, 0)
		p.all(p.append("ab" + string([]byte{byte(n)}) + "c"))
		p.crash(3, true)
		p.has("ab" + string([]byte{byte(n) ^ 0x55}))
		if p.x.cells[2].b == byte(n) {
			t.Fatal("the same byte")
		}
		// It is sure then, as it is.
		p.crash(3, true)
		p.has("ab" + string([]byte{byte(n) ^ 0x55}))
	}
}

// What was cut or retired does not count among what stays.
func TestP1403KeepBehindCutAndRetire(t *testing.T) {
	p := half(t)
	p.all(p.cut(5), p.append("xy"))
	p.crash(3, true)
	p.has("abcde-")
	p = half(t)
	p.all(p.cut(2), p.append("xyz"))
	p.crash(2, true)
	p.has("abx,")
	p = half(t)
	p.all(p.retire(2))
	p.crash(2, true)
	isLog(t, p.d, 2, "cd0")
	p = half(t)
	p.all(p.retire(5))
	p.crash(1, true)
	isLog(t, p.d, 5, "3")
	p = half(t)
	p.all(p.retire(5), p.cut(5), p.append("uvw"))
	p.crash(2, false)
	isLog(t, p.d, 5, "uv")
}

func TestP1403Fates(t *testing.T) {
	for _, c := range []struct {
		fate int
		page string
	}{
		{0, "a"}, {1, "b"}, {2, "\xff"}, {3, "a"}, {4, "b"}, {5, "\xff"}, {6, "a"}, {100, "b"}, {great, "b"}, {great - 1, "a"}, {great - 2, "\xff"},
		{-1, "\xff"}, {-2, "b"}, {-3, "a"}, {-4, "\xff"}, {-5, "b"}, {-6, "a"}, {least, "b"}, {least + 1, "\xff"}, {least + 2, "a"},
	} {
		p := begin(t, 1, 3)
		p.all(p.write(1, pageOf("a")), p.sync(), p.write(1, pageOf("b")), p.write(2, pageOf("c")))
		p.crash(0, false, c.fate)
		p.has("", zeros, c.page, zeros)
	}
}

// Page by page that was written, rising, however they were written.
func TestP1403FatesRising(t *testing.T) {
	for _, order := range [][]int{{1, 2, 4}, {4, 2, 1}, {2, 1, 4, 2}, {4, 4, 1, 2, 1}} {
		p := half(t)
		for _, page := range order {
			p.all(p.write(page, pageOf("new")))
		}
		p.crash(0, false, 1, 2, 0)
		p.has("abc", zeros, "new", "\xff", zeros, zeros)
	}
	// Rising is as numbers are, not as their texts.
	p := begin(t, 1, 200)
	for _, page := range []int{100, 9, 20} {
		p.all(p.write(page, pageOf("x")))
	}
	p.crash(0, false, 1, 2, 0)
	isPage(t, p.d, 9, pageOf("x"))
	isPage(t, p.d, 20, pageOf("\xff"))
	isPage(t, p.d, 100, pageOf(zeros))
}

func TestP1403FewAndManyFates(t *testing.T) {
	for _, c := range []struct {
		fates []int
		pages []string
	}{
		{nil, []string{"a", "a", "a"}}, {[]int{}, []string{"a", "a", "a"}},
		{[]int{1}, []string{"b", "a", "a"}}, {[]int{0, 1}, []string{"a", "b", "a"}}, {[]int{2, 0}, []string{"\xff", "a", "a"}},
		{[]int{1, 1, 2}, []string{"b", "b", "\xff"}}, {[]int{1, 2, 1, 2}, []string{"b", "\xff", "b"}},
		{[]int{0, 0, 0, 1, 1, 1}, []string{"a", "a", "a"}},
	} {
		p := begin(t, 1, 5)
		for page := range 5 {
			p.all(p.write(page, pageOf("a")))
		}
		p.all(p.sync())
		for page := range 3 {
			p.all(p.write(page, pageOf("b")))
		}
		p.crash(0, false, c.fates...)
		p.has("", append(c.pages, "a", "a")...)
	}
}

// A page that was synced takes no fate, nor does one that no Write was done to.
func TestP1403NoFate(t *testing.T) {
	p := begin(t, 1, 5)
	p.all(p.write(0, pageOf("a")), p.write(2, pageOf("b")), p.sync(), p.write(3, pageOf("c")))
	p.each(api.ErrArg, p.write(1, "short"), p.write(5, pageOf("x")))
	p.load(4)
	p.crash(0, false, 1, 2, 2, 2, 2)
	p.has("", "a", zeros, "b", "c", zeros)
	p.all(p.write(2, pageOf("d")))
	p.fuse(0)
	p.each(api.ErrPower, p.write(0, pageOf("x")))
	p.each(api.ErrPower, p.write(4, pageOf("x")))
	p.crash(0, false, 1, 2, 2)
	p.has("", "a", zeros, "d", "c", zeros)
}

// A page that is written with what it has takes a fate, and one that is written
// twice takes one.
func TestP1403OneFate(t *testing.T) {
	p := begin(t, 1, 3)
	p.all(p.write(0, pageOf("a")), p.sync(), p.write(0, pageOf("a")), p.write(1, pageOf(zeros)), p.write(2, pageOf("c")))
	p.crash(0, false, 2, 2, 1)
	p.has("", "\xff", "\xff", "c")
	p.all(p.write(0, pageOf("a")), p.write(1, pageOf("b")), p.write(0, pageOf("d")), p.write(0, pageOf("e")))
	p.crash(0, false, 1, 2)
	p.has("", "e", "\xff", "c")
	// As it was sure is as it was ahead of the first of several Writes.
	p.all(p.write(0, pageOf("f")), p.write(0, pageOf("g")))
	p.crash(0, false, 0)
	p.has("", "e", "\xff", "c")
}

// A Sync that does nothing, for want of power, makes nothing sure.
func TestP1403NoSync(t *testing.T) {
	p := begin(t, 10, 1)
	p.all(p.append("ab"), p.write(0, pageOf("a")))
	p.fuse(0)
	p.each(api.ErrPower, p.sync())
	p.crash(1, false, 2)
	p.has("a", "\xff")
}

// Behind a crash all is sure, the power is on, and there is no fuse.
func TestP1403Behind(t *testing.T) {
	for _, k := range []int{-1, 0, 1, 7} {
		for _, torn := range []bool{false, true} {
			p := half(t)
			for page := range 5 {
				p.all(p.write(page, pageOf("x")))
			}
			p.fuse(k)
			if k == 0 {
				p.each(api.ErrPower, p.sync())
			}
			p.crash(2, torn, 0, 1, 2)
			last := "e"
			if torn {
				last = "0"
			}
			for range 3 {
				if p.d.Down() {
					t.Fatal("the power is off")
				}
				p.has("abcd"+last, zeros, "x", "\xff", zeros, zeros)
				p.crash(0, true, 2, 2, 2, 2, 2)
			}
			for range 20 {
				p.all(p.sync())
			}
		}
	}
}

// Places go on where the crash left the log.
func TestP1403GoesOn(t *testing.T) {
	p := half(t)
	p.all(p.retire(1))
	p.crash(1, false)
	isLog(t, p.d, 1, "bcd")
	p.all(p.append("xyz"))
	isLog(t, p.d, 1, "bcdxyz")
	p.crash(2, false)
	isLog(t, p.d, 1, "bcdxy")
	p.all(p.retire(6))
	p.crash(0, false)
	isLog(t, p.d, 6, "")
	p.all(p.append("z"), p.sync())
	p.crash(0, true)
	isLog(t, p.d, 6, "z")
}
