package disk_test

import (
	"fmt"
	"testing"

	"longstop/api"
)

// operations gives each one, as it may be done to any log of at most 20 bytes
// and two pages.
func operations() map[string]func(pair) api.Errno {
	return map[string]func(pair) api.Errno{
		"Append":             func(p pair) api.Errno { return p.append("x") },
		"Append of no bytes": func(p pair) api.Errno { return p.append("") },
		"Sync":               func(p pair) api.Errno { return p.sync() },
		"Cut":                func(p pair) api.Errno { return p.cut(p.x.end() - 1) },
		"Cut at Base":        func(p pair) api.Errno { return p.cut(p.x.base) },
		"Cut at End":         func(p pair) api.Errno { return p.cut(p.x.end()) },
		"Retire":             func(p pair) api.Errno { return p.retire(p.x.base + 1) },
		"Retire at Base":     func(p pair) api.Errno { return p.retire(p.x.base) },
		"Retire at End":      func(p pair) api.Errno { return p.retire(p.x.end()) },
		"Write":              func(p pair) api.Errno { return p.write(1, pageOf("x")) },
		"Write of another":   func(p pair) api.Errno { return p.write(0, pageOf("new")) },
	}
}

// refused gives calls against which ErrArg or ErrFull stands.
func refused() map[string]func(pair) api.Errno {
	return map[string]func(pair) api.Errno{
		"Append of too much":   func(p pair) api.Errno { return p.append(repeated(21)) },
		"Append of a bit more": func(p pair) api.Errno { return p.append(repeated(21 - p.x.end() + p.x.base)) },
		"Cut below Base":       func(p pair) api.Errno { return p.cut(p.x.base - 1) },
		"Cut above End":        func(p pair) api.Errno { return p.cut(p.x.end() + 1) },
		"Cut below 0":          func(p pair) api.Errno { return p.cut(least) },
		"Retire below Base":    func(p pair) api.Errno { return p.retire(p.x.base - 1) },
		"Retire above End":     func(p pair) api.Errno { return p.retire(p.x.end() + 1) },
		"Retire far above":     func(p pair) api.Errno { return p.retire(great) },
		"Write below 0":        func(p pair) api.Errno { return p.write(-1, pageOf("x")) },
		"Write too far":        func(p pair) api.Errno { return p.write(2, pageOf("x")) },
		"Write of 511":         func(p pair) api.Errno { return p.write(0, repeated(511)) },
		"Write of 513":         func(p pair) api.Errno { return p.write(1, repeated(513)) },
		"Write of none":        func(p pair) api.Errno { return p.write(0, "") },
	}
}

// worked gives a disk with something of all: retired bytes, sure ones, others,
// a sure page that was written anew.
func worked(t *testing.T) pair {
	t.Helper()
	p := begin(t, 20, 2)
	p.all(p.append("abcdef"), p.write(0, pageOf("a")), p.sync(), p.retire(2), p.append("ghi"), p.write(0, pageOf("b")))
	return p
}

// off is worked without power.
func off(t *testing.T) pair {
	t.Helper()
	p := worked(t)
	p.fuse(0)
	p.each(api.ErrPower, p.sync())
	return p
}

func TestP1402FuseCounts(t *testing.T) {
	for k := range 30 {
		p := worked(t)
		p.fuse(k)
		for i := range k {
			if e := p.append(""); e != api.OK || p.d.Down() {
				t.Fatalf("operation %d of %d: error %d", i, k, e)
			}
		}
		if e := p.sync(); e != api.ErrPower || !p.d.Down() {
			t.Fatalf("behind %d operations: error %d", k, e)
		}
	}
}

// Each operation takes one of the fuse.
func TestP1402FuseTakesOne(t *testing.T) {
	for name, call := range operations() {
		p := worked(t)
		p.fuse(1)
		if e := call(p); e != api.OK || p.d.Down() {
			t.Fatalf("%s: error %d", name, e)
		}
		p.holds(name)
		if e := p.append(""); e != api.ErrPower || !p.d.Down() {
			t.Fatalf("behind %s: error %d", name, e)
		}
	}
}

// An operation at the fuse's end does nothing.
func TestP1402FuseEnd(t *testing.T) {
	for name, call := range operations() {
		for _, fates := range [][]int{nil, {1}, {1, 1}, {2}} {
			p := worked(t)
			p.fuse(0)
			p.holds("the power is on")
			if e := call(p); e != api.ErrPower || !p.d.Down() || p.d.Base() != 2 || p.d.End() != 9 {
				t.Fatalf("%s: error %d, from %d to %d", name, e, p.d.Base(), p.d.End())
			}
			p.crash(2, false, fates...)
			isLog(t, p.d, 2, "cdefgh")
			first := "a"
			if len(fates) > 0 {
				first = []string{"b", "\xff"}[fates[0]-1]
			}
			p.has("cdefgh", first, zeros)
		}
	}
}

// What is refused takes nothing of the fuse, and the power does not go at it.
func TestP1402FuseRefused(t *testing.T) {
	for name, call := range refused() {
		p := worked(t)
		want := call(p)
		if want != api.ErrArg && want != api.ErrFull {
			t.Fatalf("%s: error %d", name, want)
		}
		p.fuse(2)
		for k := 2; k > 0; k-- {
			for range 4 {
				p.each(want, call(p))
			}
			p.all(p.append(""))
		}
		for range 4 {
			p.each(want, call(p))
		}
		p.holds(name)
		p.each(api.ErrPower, p.append(""))
	}
}

func TestP1402FuseLooks(t *testing.T) {
	p := worked(t)
	p.fuse(1)
	for range 5 {
		p.holds("looks")
	}
	p.all(p.sync())
	for range 5 {
		p.holds("looks")
	}
	p.each(api.ErrPower, p.sync())
}

func TestP1402NoFuse(t *testing.T) {
	for _, k := range []int{-1, -2, -100, least, great} {
		p := worked(t)
		p.fuse(k)
		for range 20 {
			for _, call := range operations() {
				p.all(p.cut(p.x.base), p.append("abc"), call(p))
			}
		}
		p.holds("no fuse")
	}
}

func TestP1402FuseAnew(t *testing.T) {
	p := worked(t)
	p.fuse(1)
	p.fuse(3)
	p.all(p.sync(), p.sync())
	p.fuse(2)
	p.all(p.sync(), p.sync())
	// At its end, and not yet burnt.
	p.fuse(1)
	p.all(p.sync())
	p.fuse(0)
	p.fuse(-1)
	p.all(p.sync(), p.sync(), p.sync())
	p.fuse(0)
	p.fuse(1)
	p.all(p.sync())
	p.each(api.ErrPower, p.sync())
}

func TestP1402FuseWhileOff(t *testing.T) {
	for _, k := range []int{-1, 0, 1, 5, least, great} {
		p := off(t)
		p.fuse(k)
		for range 3 {
			p.each(api.ErrPower, p.sync(), p.append("x"), p.read(2), p.load(0))
			p.holds("off")
			if !p.d.Down() {
				t.Fatal("the power is on")
			}
		}
		p.crash(great, false, 1)
		p.has("cdefghi", "b", zeros)
		for range 20 {
			p.all(p.sync())
		}
	}
}

func TestP1402Off(t *testing.T) {
	calls := operations()
	for name, call := range refused() {
		calls[name] = call
	}
	for _, n := range []int{0, 1, 2, 9, 10, -1, least, great} {
		calls[fmt.Sprint("Read at ", n)] = func(p pair) api.Errno { return p.read(n) }
		calls[fmt.Sprint("Load of ", n)] = func(p pair) api.Errno { return p.load(n) }
	}
	p := off(t)
	for range 3 {
		for name, call := range calls {
			if e := call(p); e != api.ErrPower {
				t.Fatalf("%s: error %d", name, e)
			}
			if p.d.Base() != 2 || p.d.End() != 9 || !p.d.Down() {
				t.Fatalf("%s: Base %d, End %d, Down %v", name, p.d.Base(), p.d.End(), p.d.Down())
			}
		}
	}
	p.crash(great, false, 1)
	p.has("cdefghi", "b", zeros)
}

// The power goes at an operation that would fill the disk no less than at
// another one, and comes back only by a crash.
func TestP1402PowerComesBack(t *testing.T) {
	p := begin(t, 3, 0)
	p.fuse(2)
	p.all(p.append("a"), p.append("b"))
	p.each(api.ErrFull, p.append("cd"))
	p.each(api.ErrPower, p.append("c"), p.append("cd"), p.append("c"))
	p.crash(1, false)
	p.has("a")
	p.all(p.append("bc"))
	p.each(api.ErrFull, p.append("d"))
	p.has("abc")
}
