package wal_test

import (
	"math/rand"
	"testing"

	"longstop/api"
	"longstop/codec"
)

// randomPlace gives one where a record begins, or close to one, or beyond all.
func randomPlace(r *rand.Rand, x *told) int {
	at := pick(r, x.base, x.end)
	if n := len(x.notes); n > 0 && r.Intn(3) > 0 {
		at = x.notes[r.Intn(n)].at
	}
	return pick(r, at, at, at, at, at-1, at+1, -at, least, great)
}

// randomCall does one call to the wal, and the teller tells what it should be.
func randomCall(r *rand.Rand, p *pair) {
	p.t.Helper()
	switch r.Intn(30) {
	case 0, 1, 2, 3, 4, 5, 6, 7, 8, 9:
		p.append(randomText(r, r.Intn(pick(r, 1, 4, 4, 12, 80))))
	case 10:
		p.append(repeated(max(0, p.x.most-p.x.end+p.x.base-pick(r, 8, 9, 10, 11))))
	case 11, 12, 13, 14:
		p.sync()
	case 15, 16:
		p.truncate(randomPlace(r, p.x))
	case 17:
		p.retire(randomPlace(r, p.x))
	case 18, 19, 20, 21, 22:
		p.since(randomPlace(r, p.x))
	case 23:
		p.fuse(pick(r, -1, 0, 1, r.Intn(20), r.Intn(20)))
	case 24:
		p.open()
	default:
		if p.x.down || r.Intn(5) == 0 {
			p.crash(pick(r, -1, 0, 1, r.Intn(12), r.Intn(40), great), r.Intn(2) == 0)
			for p.open() != api.OK {
				p.crash(r.Intn(9), false)
			}
		}
	}
}

// Random calls are held against the teller.
func TestP1504Random(t *testing.T) {
	downs := 0
	for seed := range 200 {
		r := rand.New(rand.NewSource(int64(seed)))
		p := begin(t, pick(r, 9, 20, 50, 200, 1000))
		for range 400 {
			randomCall(r, p)
			p.holds("a call")
			if p.d.Down() {
				downs++
			}
		}
	}
	if downs < 1000 || downs > 60000 {
		t.Error(downs)
	}
}

// spoil does something to the disk beneath the wal.
func spoil(r *rand.Rand, p *pair) {
	b, e := p.d.Base(), p.d.End()
	switch r.Intn(6) {
	case 0:
		p.d.Append([]byte(recordOf(randomText(r, r.Intn(4)))))
	case 1:
		p.d.Append([]byte(randomText(r, r.Intn(4))))
	case 2:
		p.d.Cut(b + r.Intn(e-b+1))
	case 3:
		p.d.Retire(b + r.Intn(e-b+1))
	default:
		p.d.Crash(r.Intn(20), r.Intn(2) == 0, nil)
	}
}

// walked gives the records that the disk's log begins with, by a Reader.
func walked(p *pair) []note {
	b, _ := p.d.Read(p.d.Base())
	var l []note
	for at := 0; at < len(b); {
		r := codec.NewReader(b[at:])
		s := r.Text()
		if r.Err() != api.OK || r.Left() < 8 || len(b)-at < sizeOf(s) || string(b[at:at+sizeOf(s)]) != recordOf(s) {
			break
		}
		l = append(l, note{at: p.d.Base() + at, size: sizeOf(s), in: s})
		at += sizeOf(s)
	}
	return l
}

// Whatever is done to the disk beneath, the wal tells what the disk has.
func TestP1504RandomBeneath(t *testing.T) {
	for seed := range 400 {
		r := rand.New(rand.NewSource(int64(seed)))
		p := begin(t, 100000)
		for range 60 {
			switch r.Intn(6) {
			case 0, 1, 2:
				p.w.Append([]byte(randomText(r, r.Intn(4))))
			case 3:
				p.w.Truncate(randomPlace(r, &told{base: p.d.Base(), end: p.d.End(), notes: walked(p)}))
			case 4:
				p.w.Retire(randomPlace(r, &told{base: p.d.Base(), end: p.d.End(), notes: walked(p)}))
			default:
				spoil(r, p)
			}
			p.tellsAll(walked(p))
		}
	}
}

// tellsAll asks about each place of the log, and those round it.
func (p *pair) tellsAll(want []note) {
	p.t.Helper()
	x := &told{base: p.d.Base(), end: p.d.End(), notes: want}
	for at := x.base - 2; at < x.end+3; at++ {
		l, e := p.w.Since(at)
		some, f := x.since(at)
		p.same("Since", e, f)
		isList(p.t, "Since", l, some)
		if f == api.ErrArg {
			p.each(api.ErrArg, p.w.Truncate(at), p.w.Retire(at))
		}
	}
}

// Two wals of two disks, by turns, at random.
func TestP1501RandomTwoWals(t *testing.T) {
	r := rand.New(rand.NewSource(1501))
	for range 20 {
		a, b := begin(t, 200), begin(t, 200)
		for range 300 {
			randomCall(r, a)
			b.holds("the other one")
			randomCall(r, b)
			a.holds("the other one")
		}
	}
}
