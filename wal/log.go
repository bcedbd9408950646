package wal

import (
	"longstop/api"
	"longstop/disk"
)

// log is a disk with what is known of its records. seen is what the last call
// that changed the log left: while the power is off the disk does not tell what
// it has, but places are asked about then, too.
type log struct {
	*disk.Disk
	seen image
	sure int
}

func openLog(d *disk.Disk) (*log, api.Errno) {
	b, e := d.Read(d.Base())
	if e != api.OK {
		return nil, e
	}
	l := &log{Disk: d, seen: imageOf(d.Base(), b)}
	if l.seen.told < l.End() {
		if e := l.cut(l.seen, l.seen.told); e != api.OK {
			return nil, e
		}
	}
	return l, l.settle()
}

// look gives the log as it is. The disk may have been worked with beneath the
// wal, and a crash takes bytes away; so what was seen counts only if the disk
// still has just that, or if the power is off, as nothing changes then.
func (l *log) look() image {
	b, e := l.Read(l.Base())
	if e != api.OK || l.seen.is(l.Base(), b) {
		return l.seen
	}
	return imageOf(l.Base(), b)
}

// put does not look at the whole log for each record, but where that did not
// come to stand behind what was seen.
func (l *log) put(record []byte) (int, api.Errno) {
	at, e := l.Append(record)
	if e != api.OK {
		return 0, e
	}
	if at == l.seen.end() {
		l.seen.grow(record)
	} else {
		l.seen = l.look()
	}
	return at, api.OK
}

func (l *log) settle() api.Errno {
	if e := l.Sync(); e != api.OK {
		return e
	}
	l.sure = l.End()
	return api.OK
}

func (l *log) truncate(at int) api.Errno {
	x := l.look()
	if !x.has(at) {
		return api.ErrArg
	}
	return l.cut(x, at)
}

// cut takes away what stands from that place on of the log, of which x is the
// image.
func (l *log) cut(x image, at int) api.Errno {
	if e := l.Cut(at); e != api.OK {
		return e
	}
	x.cut(at)
	l.seen, l.sure = x, l.End()
	return api.OK
}

func (l *log) retire(at int) api.Errno {
	x := l.look()
	if !x.has(at) {
		return api.ErrArg
	}
	if e := l.Retire(at); e != api.OK {
		return e
	}
	x.retire(at)
	l.seen = x
	return api.OK
}
