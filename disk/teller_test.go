package disk_test

import (
	"slices"
	"strings"

	"longstop/api"
)

// A second teller of the chapter: the log is a list of bytes that each know
// whether they are sure, and pages are texts.

type cell struct {
	b    byte
	sure bool
}

type leaf struct {
	now, sure string
	written   bool
}

type told struct {
	most, base, fuse int
	down             bool
	cells            []cell
	leaves           []leaf
}

const zeros = "\x00"

// pageOf gives the bytes of a page that is filled with s.
func pageOf(s string) string { return strings.Repeat(s, 512)[:512] }

func toldNew(most, pages int) *told {
	blank := leaf{now: pageOf(zeros), sure: pageOf(zeros)}
	return &told{most: most, fuse: -1, leaves: slices.Repeat([]leaf{blank}, pages)}
}

func (x *told) end() int { return x.base + len(x.cells) }

func (x *told) hasNot(at int) bool { return at < x.base || at > x.end() }

func (x *told) hasNoPage(page int) bool { return page < 0 || page >= len(x.leaves) }

// fault is what stands against a call, of which wrong tells whether there is e.
func (x *told) fault(wrong bool, e api.Errno) api.Errno {
	if x.down {
		return api.ErrPower
	}
	if wrong {
		return e
	}
	return api.OK
}

// operation is a fault, or a step of the fuse.
func (x *told) operation(wrong bool, e api.Errno) api.Errno {
	if e := x.fault(wrong, e); e != api.OK {
		return e
	}
	if x.fuse == 0 {
		x.down = true
		return api.ErrPower
	}
	if x.fuse > 0 {
		x.fuse--
	}
	return api.OK
}

func (x *told) append(s string) (int, api.Errno) {
	if e := x.operation(x.end()+len(s)-x.base > x.most, api.ErrFull); e != api.OK {
		return 0, e
	}
	at := x.end()
	for _, b := range []byte(s) {
		x.cells = append(x.cells, cell{b: b})
	}
	return at, api.OK
}

func (x *told) sync() api.Errno {
	e := x.operation(false, api.OK)
	if e == api.OK {
		x.allSure()
	}
	return e
}

func (x *told) allSure() {
	for i := range x.cells {
		x.cells[i].sure = true
	}
	for i := range x.leaves {
		x.leaves[i].sure, x.leaves[i].written = x.leaves[i].now, false
	}
}

func (x *told) cut(at int) api.Errno {
	e := x.operation(x.hasNot(at), api.ErrArg)
	if e == api.OK {
		x.cells = x.cells[:at-x.base]
	}
	return e
}

func (x *told) retire(at int) api.Errno {
	e := x.operation(x.hasNot(at), api.ErrArg)
	if e == api.OK {
		x.cells, x.base = x.cells[at-x.base:], at
	}
	return e
}

func (x *told) read(at int) (string, api.Errno) {
	if e := x.fault(x.hasNot(at), api.ErrArg); e != api.OK {
		return "", e
	}
	var b []byte
	for _, c := range x.cells[at-x.base:] {
		b = append(b, c.b)
	}
	return string(b), api.OK
}

func (x *told) write(page int, s string) api.Errno {
	e := x.operation(x.hasNoPage(page) || len(s) != 512, api.ErrArg)
	if e == api.OK {
		x.leaves[page].now, x.leaves[page].written = s, true
	}
	return e
}

func (x *told) load(page int) (string, api.Errno) {
	if e := x.fault(x.hasNoPage(page), api.ErrArg); e != api.OK {
		return "", e
	}
	return x.leaves[page].now, api.OK
}

func (x *told) crash(keep int, torn bool, fates []int) {
	var stay []cell
	loose := 0
	for _, c := range x.cells {
		if !c.sure {
			loose++
		}
		if c.sure || loose <= keep {
			stay = append(stay, c)
		}
	}
	if n := len(stay); torn && n > 0 && !stay[n-1].sure {
		stay[n-1].b ^= 0b1010101
	}
	x.cells = stay
	for i := range x.leaves {
		if !x.leaves[i].written {
			continue
		}
		fate := 0
		if len(fates) > 0 {
			fate, fates = fates[0], fates[1:]
		}
		x.leaves[i].now = fatedTo(x.leaves[i], fate)
	}
	x.allSure()
	x.down, x.fuse = false, -1
}

// fatedTo gives what a page is by that fate: modulo 3 is what is left above the
// greatest multiple of 3 that is not above it.
func fatedTo(l leaf, fate int) string {
	for fate > 2 {
		fate -= max(3, fate/6*3)
	}
	for fate < 0 {
		fate += max(3, fate/6*-3)
	}
	return []string{l.sure, l.now, pageOf("\xff")}[fate]
}
