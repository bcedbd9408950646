package disk_test

import (
	"testing"

	"longstop/api"
	"longstop/disk"
)

func TestP1402Pages(t *testing.T) {
	for _, n := range []int{1, 2, 5, 65536} {
		for _, page := range []int{0, n / 2, n - 1} {
			d, _ := disk.New(1, n)
			isPage(t, d, page, pageOf(zeros))
			for _, s := range []string{"x", "yz", zeros, "\xff", repeated(512)} {
				if e := d.Write(page, []byte(pageOf(s))); e != api.OK {
					t.Fatal(page, e)
				}
				isPage(t, d, page, pageOf(s))
			}
		}
	}
}

func TestP1402NoSuchPage(t *testing.T) {
	for _, n := range []int{0, 1, 2, 5, 65536} {
		p := begin(t, 1, n)
		for _, page := range []int{-1, n, n + 1, -n - 1, 65536, 65537, 1 << 32, least, great} {
			for _, s := range []string{pageOf("x"), "", "x", pageOf("x") + "x"} {
				p.each(api.ErrArg, p.write(page, s))
			}
			if b, e := p.d.Load(page); len(b) != 0 || cap(b) != 0 || e != api.ErrArg {
				t.Errorf("page %d of %d: %s, error %d", page, n, short(b), e)
			}
			p.holds("no such page")
		}
		// Nothing was written, so nothing takes a fate.
		p.crash(0, true, 2, 2)
	}
}

func TestP1402NotAPage(t *testing.T) {
	p := begin(t, 1, 2)
	p.all(p.write(0, pageOf("x")))
	for _, n := range []int{0, 1, 256, 511, 513, 1024, 65536} {
		p.each(api.ErrArg, p.write(0, repeated(n)), p.write(1, repeated(n)))
		p.has("", "x", zeros)
	}
	p.crash(0, false, 1, 2)
	p.has("", "x", zeros)
}

// A page is what was written last, each for itself.
func TestP1402WrittenLast(t *testing.T) {
	p := begin(t, 1, 4)
	p.all(p.write(1, pageOf("a")), p.write(3, pageOf("b")), p.write(1, pageOf("c")))
	p.has("", zeros, "c", zeros, "b")
	p.all(p.sync(), p.write(1, pageOf("d")), p.write(0, pageOf("e")))
	p.has("", "e", "d", zeros, "b")
	p.all(p.write(3, pageOf(zeros)))
	p.has("", "e", "d", zeros, zeros)
	p.all(p.sync())
	p.has("", "e", "d", zeros, zeros)
}

// The log and the pages do not know of each other.
func TestP1402LogAndPages(t *testing.T) {
	p := begin(t, 1024, 2)
	p.all(p.append(pageOf("log")), p.write(0, pageOf("a")), p.write(1, pageOf("b")), p.append(pageOf("on")))
	p.each(api.ErrFull, p.append("x"))
	p.all(p.write(0, pageOf("c")))
	p.has(pageOf("log")+pageOf("on"), "c", "b")
	p.all(p.cut(0))
	p.has("", "c", "b")
	p.all(p.append("abc"), p.retire(3))
	p.has("", "c", "b")
}
